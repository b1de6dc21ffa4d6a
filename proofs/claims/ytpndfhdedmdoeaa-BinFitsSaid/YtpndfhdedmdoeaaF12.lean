/-
  Values of cells as they lie in memory; a page's cell is read. Written by audit/gen_at.py.
-/
import Derived.Test.YtpndfhdedmdoeaaF07
import Derived.Test.YtpndfhdedmdoeaaF06
import Derived.Test.YtpndfhdedmdoeaaF11
import Derived.Deep.RegionHeld3
import Derived.Test.YtpndfhdedmdoeaaF01
import Derived.RangeFuncNested
import Derived.RangeFuncBound
import Derived.RangeFuncLeaves
import Derived.Shelf.Abstract
import Derived.Shelf.RegionOpen
import Derived.WalkKit
import Derived.OwnWalkIn
import Derived.TacticsInMore
import Derived.LoopNIn
import Derived.LoopIn
import Derived.Laws.BitsAllLaws
namespace Go.Proofs.Ytpndfhdedmdoeaa
open Go.ChangeShapes Go.WideShapes Go.ChangeAt Go.RowKit
set_option linter.unusedVariables false
set_option linter.unusedSimpArgs false

theorem Held.drew {w : World} {g : Nat} {t : TypeId} {cs : Array Value} (h : Held w g t cs) : Held w.drew g t cs := h
/-- a right configuration, and as many cells as it has -/
structure HeapV (H : AuH) (n c : Nat) : Prop where
  right : rightB H.t H.p H.s = true
  len : n = 30 + 4 * H.t + 6 * H.p
  cap : n ≤ c
  max : c ≤ maxLen
  lt : ∀ i, i < n → H.V i < 2 ^ 32
/-- n values of cells from ad on -/
def IsVals (w : World) (ad : Addr) (n : Nat) (V : Nat → Nat) : Prop := ad.block < w.heap.size ∧ ∀ i, i < n → w.cell? (ad.add i) = some (.int .u32 (V i : Nat))
theorem IsVals.below {w w' : World} {ad : Addr} {n : Nat} {V : Nat → Nat} (h : IsVals w ad n V) (hb : Below w.heap.size w w') : IsVals w' ad n V :=
  ⟨Nat.lt_of_lt_of_le h.1 hb.size, fun i hi => by
    have e : (ad.add i).block < w.heap.size := by rw [block_of_add]; exact h.1
    exact (hb.cell e).trans (h.2 i hi)⟩
theorem IsVals.drew {w : World} {ad : Addr} {n : Nat} {V : Nat → Nat} (h : IsVals w ad n V) : IsVals w.drew ad n V := h
theorem HeapV.nums {H : AuH} {n c : Nat} (h : HeapV H n c) : 1 ≤ H.t ∧ H.t ≤ 16 ∧ 4 ≤ H.p ∧ H.p ≤ 1024 ∧ 10 ≤ H.s ∧ H.s ≤ 20 ∧ n ≤ 6238 ∧ n ≤ c ∧ c ≤ maxLen := by
  have h1 := (rightB_iff _ _ _).1 h.right
  have h2 := h.len
  have h3 := h.cap
  have h4 := h.max
  omega
theorem HeapV.cel_lt {H : AuH} {n c : Nat} (h : HeapV H n c) {q b : Nat} (hq : q < H.p) (hb : b < 6) : H.cel q b < 2 ^ 32 := h.lt _ (by have := h.len; omega)
theorem HeapV.page {H : AuH} {n c : Nat} (h : HeapV H n c) {q b : Nat} (hq : q < H.p) (hb : b < 6) : pageI H.t H.p H.s q b = ((30 + 4 * H.t + 6 * q + b : Nat) : Int) := by
  rw [pcell_yes h.right (by omega) (by omega) (by omega) (by omega)]
  push_cast
  omega
def hpV (H : AuH) (ad : Addr) (n c : Nat) : Value := .agg #[.int .i64 (H.t : Int), .int .i64 (H.p : Int), .int .i64 (H.s : Int), .slice (some ad) n c]

end Go.Proofs.Ytpndfhdedmdoeaa

/-
  A range over a function whose value is a method of some receiver: one law for its caller (wp_seq), told by places (0, next 0, ..); regions that draw, in a round. No program is named here.
-/
namespace Go.Proofs.Ytpndfhdedmdoeaa
open Go.ChangeShapes Go.WideShapes Go.ChangeAt Go.RowKit Go.Maps
set_option linter.unusedVariables false

abbrev inR (l : Nat) : Fence := Fence.wide.inRound l
def NoDefer (ops : Array Oper) : Bool := ops.all fun o => match o.op with | .defer _ => false | _ => true
theorem noDefer_at {ops : Array Oper} (h : NoDefer ops = true) {i : Nat} {o : Oper} (hi : ops[i]? = some o) : ∀ c, o.op ≠ .defer c := by
  intro c hc
  unfold NoDefer at h
  rw [Array.all_eq_true_iff_forall_mem] at h
  have := h o (Array.mem_of_getElem? hi)
  simp [hc] at this

section
variable {P : Program} {ops : Array Oper} {Q : Exit → Act → World → Prop} {md : Region.Mode} {l n : Nat}
theorem rows_in {row : String} {args : Array Value} {w : World} {R : Value → World → Prop} (h : Rows P row args w R) : RowsIn (inR l) n P row args w R :=
  fun c cs _ => let ⟨v, w', r, s⟩ := h c cs; ⟨v, w', r, (stepsIn_wide (P := P)).2 s⟩
theorem calls_in {f : FuncId} {args : Array Value} {w : World} {R : Ending → World → Prop} (h : Calls P f args w R) : CallsIn (inR l) n P f args w R := CallsIn.inRound l (callsIn_wide.2 h)
theorem calls_out {f : FuncId} {args : Array Value} {w : World} {R : Ending → World → Prop} (h : Calls P f args w R) : CallsIn Fence.wide n P f args w R := callsIn_wide.2 h

theorem wpOp_round (hd : NoDefer ops = true) (hQ : ∀ a w, ¬ Q .outgrown a w) {i : Nat} {K K' : Act → World → Prop} (hK : ∀ a w, K a w → K' a w) {a : Act} {w : World}
    (h : wpOp P ops Q i K a w) : wpOpIn (inR l) n P ops Q i K' a w := by
  unfold wpOp at h
  unfold wpOpIn
  cases ho : ops[i]? with
  | none => simp only [ho] at h ⊢; exact hK _ _ h
  | some o =>
    simp only [ho] at h ⊢
    by_cases hw : Region.wanted o (yielded ops a.tmps) = true
    · simp only [hw, if_true] at h ⊢
      have h := h.resolve_right (fun h2 => by obtain ⟨_, a', w', h3⟩ := h2; exact hQ a' w' h3)
      unfold Oper.wp at h
      unfold Oper.wpIn
      refine ⟨fun _ _ => trivial, ?_⟩
      rw [Oper.semAt_eq _ _ _ (noDefer_at hd ho)]
      generalize (execOp a.eval o).run P w = r at *
      cases r with
      | ok x w' =>
        cases x <;> simp only [Oper.upon, Oper.uponIn] at h ⊢
        case value u => exact hK _ _ h
        case skip => exact hK _ _ h
        case defer d => exact hK _ _ h
        case enter f args =>
          refine ⟨fun he => by simp [Fence.wide] at he, calls_in (h.mono fun e w'' he => ?_)⟩
          cases e with
          | returned u => exact hK _ _ he
          | panicked c => exact he
          | outgrown => exact he
        case row row args => exact ⟨fun he => by simp [Fence.wide] at he, rows_in (h.mono fun u w'' he => hK _ _ he)⟩
      | halt x w' =>
        cases x <;> simp only [Oper.upon, Oper.uponIn] at h ⊢
        case panic u => exact h
    · simp only [hw] at h ⊢
      exact ⟨fun _ _ => trivial, hK _ _ h⟩
theorem wpAny_round (hd : NoDefer ops = true) (hQ : ∀ a w, ¬ Q .outgrown a w) : ∀ (fuel : Nat) (listed : Array Bool) (a : Act) (w : World), wpAny P md ops Q fuel listed a w → wpAnyIn (inR l) n P md ops Q fuel listed a w
  | 0, _, _, _, h => h
  | fuel + 1, _, _, _, h => ⟨h.1, fun i hi => wpOp_round hd hQ (fun a w => wpAny_round hd hQ fuel _ a w) (h.2 i hi)⟩
/-- a region that draws, in a round, by the steps for one that draws elsewhere -/
theorem wp_region_round {S : World → Prop} {id : Nat} {a : Act} {w : World} (hm : P.follows .mixedOrders = true) (hd : NoDefer ops = true) (hQ : ∀ a w, ¬ Q .outgrown a w) (hS : S w.drew)
    (h : S w.drew → wpAnyH P .any ops Q S ops.size (Array.replicate ops.size false) a w.drew) : (Code.region id ops true).wpIn (inR l) n P Q a w :=
  wpIn_region_any hm (wpAny_round hd hQ _ _ _ _ (wpAny_of_held _ _ _ _ (h hS)))
end

/-! worlds that differ in no cells, and in nothing below D -/
structure Mild (D : Nat) (w w' : World) : Prop where
  os : w'.os = w.os
  tape : w'.tape = w.tape
  output : w'.output = w.output
  size : w.heap.size ≤ w'.heap.size
  low : ∀ k, k < D → w'.heap[k]? = w.heap[k]?
  cells : ∀ (k : Nat) (o : Obj), w.heap[k]? = some o → o.isCells = true → w'.heap[k]? = some o
section
variable {D : Nat} {w w' w'' : World}
theorem Mild.refl (D : Nat) (w : World) : Mild D w w := ⟨rfl, rfl, rfl, Nat.le_refl _, fun _ _ => rfl, fun _ _ h _ => h⟩
theorem Mild.trans (h : Mild D w w') (k : Mild D w' w'') : Mild D w w'' :=
  ⟨k.os.trans h.os, k.tape.trans h.tape, k.output.trans h.output, Nat.le_trans h.size k.size, fun i hi => (k.low i hi).trans (h.low i hi), fun i o hi ho => k.cells i o (h.cells i o hi ho) ho⟩
theorem Mild.of_below (hD : D ≤ w.heap.size) (h : Below w.heap.size w w') : Mild D w w' :=
  ⟨h.os, h.tape, h.output, h.size, fun k hk => h.block k (by omega), fun k o hk _ => (h.block k (Array.getElem?_eq_some_iff.1 hk).1).trans hk⟩
theorem Mild.put {l : Nat} {o : Obj} (o' : Obj) (hl : D ≤ l) (h : w.heap[l]? = some o) (ho : o.isCells = false) : Mild D w (w.putObj l o') :=
  ⟨rfl, rfl, rfl, by simp, fun k hk => World.putObj_heap_other (by omega), fun k o2 hk ho2 => by
    by_cases e : k = l
    · subst e; rw [h] at hk; cases hk; rw [ho] at ho2; cases ho2
    · exact (World.putObj_heap_other e).trans hk⟩
theorem Mild.below {W : World} (h : Mild D w w') (hb : Below W.heap.size W w) (hD : W.heap.size ≤ D) : Below W.heap.size W w' :=
  ⟨h.os.trans hb.os, h.tape.trans hb.tape, h.output.trans hb.output, Nat.le_trans hb.size h.size, fun k hk => (h.low k (by omega)).trans (hb.block k hk)⟩
theorem Mild.held {g : Nat} {t : TypeId} {cs : Array Value} (h : Mild D w w') (hg : Held w g t cs) : Held w' g t cs := h.cells g _ hg rfl
theorem Mild.own {base : Nat} {e : TypeId} {size : Nat} {v : Value} {n : Nat} {xs : List Value} (h : Mild D w w') (ho : w.ownsRow base e size v n xs) : w'.ownsRow base e size v n xs := by
  refine ⟨ho.1, ?_⟩
  rcases ho.2 with h2 | ⟨g, cap, cur, rfl, hbg, hg, hr⟩
  · exact .inl h2
  · exact .inr ⟨g, cap, cur, rfl, hbg, h.cells g _ hg rfl, hr⟩
end

/-- a function that hands a round enc pos, enc (next pos), .. while it can, and minds no round that turns nothing of its own -/
def SeqAt (P : Program) (gf : Nat) (bound : Array Value) (enc : Nat → Array Value) (can : Nat → Bool) (next : Nat → Nat) (w0 : World) : Prop :=
  ∀ (l : Nat) (J : Nat → (Nat → Prop) → World → Prop) (Jx : World → Prop) (W : World) (F0 : Nat → Prop), Below w0.heap.size w0 W →
    (∀ pos F A B, J pos F A → Below A.heap.size A B → J pos F B) → (∀ A B, Jx A → Below A.heap.size A B → Jx B) →
    (∀ pos F A, J pos F A → Below w0.heap.size w0 A) → (∀ pos F A, J pos F A → ∀ i, F i → i < A.heap.size) →
    (∀ pos F A, J pos F A → W.heap.size ≤ A.heap.size → can pos = true → YieldAt Fence.wide 0 P l (enc pos) A fun e B =>
      (e = .returned (.bool true) ∧ ∃ F', J (next pos) F' B ∧ A.heap.size ≤ B.heap.size ∧ (∀ k, W.heap.size ≤ k → k < A.heap.size → ¬ F k → B.heap[k]? = A.heap[k]?) ∧ ∀ i, F' i → F i ∨ A.heap.size ≤ i) ∨
      (e = .returned (.bool false) ∧ Jx B)) →
    J 0 F0 W →
    CallsIn Fence.wide 0 P gf (bound ++ #[.func (.yield l) #[] #[]]) W fun e B => (∃ v, e = .returned v) ∧ ((∃ pos F, J pos F B ∧ can pos = false) ∨ Jx B)

/-- how a round's body may be left -/
def seqPost (I : Nat → (Nat → Prop) → World → Prop) (Ix : Code → World → Prop) (pos : Nat) (F : Nat → Prop) (N : Nat) (A : World) : Exit → Act → World → Prop
  | .normal, _, B => Turns F A B ∧ ∃ F', I pos F' B ∧ ∀ i, F' i → F i ∨ N ≤ i
  | .ret, _, B => Turns F A B ∧ Ix .ret B
  | .exit id, _, B => Turns F A B ∧ Ix (.exit id) B
  | .goto t, _, B => Turns F A B ∧ Ix (.goto t) B
  | .panic _, _, _ => False
  | .outgrown, _, _ => False

/-- a round that is about to be walked: the assignments to the left sides, then the body -/
def RoundGo (D : Nat) (P : Program) (l : Nat) (body : Code) (Q : World → Exit → Act → World → Prop) (A : World) (a₁ : Act) (A₁ : World) : Prop :=
  Below A.heap.size A A₁ ∧ ∀ A₂, Mild D A₁ A₂ → A₂.heap.size = A₁.heap.size → body.wpIn (inR l) 0 P (Q A₂) a₁ A₂

def mark (D : Nat) : Deferred := { target := .collected D, args := #[] }

theorem wp_seq {P : Program} {g : Operand} {ps : Array Tmp} {assign body : Code} {Q : Exit → Act → World → Prop} {a : Act} {w : World} {gf : Nat} {bound : Array Value}
    (hg : a.eval g = .func (.func gf) bound #[]) (eg : ∀ args w, (callFunc gf args).run P w = .ok (.enter gf args) w)
    {enc : Nat → Array Value} {can : Nat → Bool} {next : Nat → Nat} {w0 : World} (hseq : SeqAt P gf bound enc can next w0) (hb0 : Below w0.heap.size w0 w) (hps : ∀ pos, (enc pos).size = ps.size)
    (I : Nat → (Nat → Prop) → World → Prop) (Ix : Code → World → Prop)
    (hI : ∀ pos F A B, I pos F A → Mild w.heap.size A B → I pos F B) (hIx : ∀ c A B, Ix c A → Mild w.heap.size A B → Ix c B)
    (hIB : ∀ pos F A, I pos F A → Below w0.heap.size w0 A) (hIF : ∀ pos F A, I pos F A → ∀ i, F i → ∃ o, A.heap[i]? = some o ∧ o.isCells = true)
    {F0 : Nat → Prop} (h0 : I 0 F0 w)
    (hround : ∀ (l pos : Nat) (F : Nat → Prop) (A : World), can pos = true → I pos F A → w.heap.size ≤ A.heap.size →
      assign.wpIn (inR l) 0 P (Exit.then (RoundGo w.heap.size P l body (seqPost I Ix (next pos) F A.heap.size) A) (fun _ _ _ => False))
        { tmps := (ps.zip (enc pos)).foldl (fun t (p, v) => t.setIfInBounds p v) a.tmps, defers := [] } A)
    (hdone : ∀ (D pos : Nat) (F : Nat → Prop) (A : World), w.heap.size ≤ D → can pos = false → I pos F A → A.heap[D]? = some (.deferred (some [])) → Q .normal { a with defers := mark D :: a.defers } A)
    (hstop : ∀ (D : Nat) (c : Code) (A : World), w.heap.size ≤ D → Ix c A → A.heap[D]? = some (.deferred (some [])) → c.wp P Q { a with defers := mark D :: a.defers } A) :
    (Code.rangeFunc g ps assign body).wp P Q a w := by
  refine (wpIn_wide (n := 1)).1 (wpIn_rangeFunc ?_)
  intro fn hfn
  obtain ⟨rec, hrec⟩ : ∃ rec : LoopState → Option Code → Loop, rec = fun st pe => { state := st, pending := pe, fn, tmps := a.tmps, params := ps, assign, body, defers := w.heap.size } := ⟨_, rfl⟩
  obtain ⟨W1, hW1⟩ : ∃ W1, (w.alloc (.deferred (some []))).alloc (.loop (rec .ready none)) = W1 := ⟨_, rfl⟩
  have hbw : Below w.heap.size w W1 := by rw [← hW1]; exact Bnew (Bnew (B0 w) _) _
  have hs1 : W1.heap.size = w.heap.size + 2 := by rw [← hW1]; simp
  have hL1 : W1.heap[w.heap.size + 1]? = some (.loop (rec .ready none)) := by
    have := heap_alloc_new (w.alloc (.deferred (some []))) (.loop (rec .ready none))
    rw [hW1] at this; simpa using this
  have hK1 : W1.heap[w.heap.size]? = some (.deferred (some [])) := by
    rw [← hW1]; exact (Below.heap_alloc _ _ _ (by simp)).trans (heap_alloc_new w _)
  refine ⟨w.heap.size + 1, [mark w.heap.size], W1, { target := .fn (.func gf) #[], args := bound ++ #[.func (.yield (w.heap.size + 1)) #[] #[]] }, W1, gf, bound ++ #[.func (.yield (w.heap.size + 1)) #[] #[]], W1, ?_, ?_, ?_, ?_, fun _ => Nat.le_refl _, ?_⟩
  · rw [← hW1, hrec]; exact run_enterLoop_outer _ _ _ _ _
  · simp only [resolve, hg]
    simp [go_sem]
  · intro f' hf'; exact trivial
  · simp [invoke, go_sem, eg]
  · have keepRow : ∀ {A B : World} {k : Nat} {o : Obj}, Below A.heap.size A B → A.heap[k]? = some o → B.heap[k]? = some o := fun hb hk => (hb.block _ (Array.getElem?_eq_some_iff.1 hk).1).trans hk
    refine (hseq (w.heap.size + 1)
      (fun pos F A => I pos F A ∧ w.heap.size ≤ A.heap.size ∧ A.heap[w.heap.size + 1]? = some (.loop (rec .ready none)) ∧ A.heap[w.heap.size]? = some (.deferred (some [])))
      (fun A => ∃ c, Ix c A ∧ w.heap.size ≤ A.heap.size ∧ A.heap[w.heap.size + 1]? = some (.loop (rec .done (some c))) ∧ A.heap[w.heap.size]? = some (.deferred (some [])))
      W1 F0 (hb0.trans (hbw.mono hb0.size))
      (fun pos F A B h hb => ⟨hI pos F A B h.1 (Mild.of_below h.2.1 hb), Nat.le_trans h.2.1 hb.size, keepRow hb h.2.2.1, keepRow hb h.2.2.2⟩)
      (fun A B h hb => by obtain ⟨c, h1, h2, h3, h4⟩ := h; exact ⟨c, hIx c A B h1 (Mild.of_below h2 hb), Nat.le_trans h2 hb.size, keepRow hb h3, keepRow hb h4⟩)
      (fun pos F A h => hIB pos F A h.1)
      (fun pos F A h i hi => by obtain ⟨o, ho, _⟩ := hIF pos F A h.1 i hi; exact (Array.getElem?_eq_some_iff.1 ho).1)
      ?_ ⟨hI 0 F0 w W1 h0 (Mild.of_below (Nat.le_refl _) hbw), hbw.size, hL1, hK1⟩).mono ?_
    · rintro pos F A ⟨hi, hsz, hl, hk⟩ hsA hc
      have hlt : w.heap.size + 1 < A.heap.size := (Array.getElem?_eq_some_iff.1 hl).1
      have hy := run_yield (P := P) (args := enc pos) hl (by rw [hrec]; exact hps pos)
      rw [hrec] at hy
      have hFl : ¬ F (w.heap.size + 1) := fun hf => by obtain ⟨o, ho, hoc⟩ := hIF pos F A hi _ hf; rw [hl] at ho; cases ho; cases hoc
      have hFk : ¬ F w.heap.size := fun hf => by obtain ⟨o, ho, hoc⟩ := hIF pos F A hi _ hf; rw [hk] at ho; cases ho; cases hoc
      refine ⟨fn, _, assign, body, hy, roundIn_of_wpIn hfn (wpIn_mono (hround _ pos F A hc hi hsz) ?_)⟩
      rintro e a₁ A₁ hg1
      cases e with
      | normal =>
        obtain ⟨hbA, hgo⟩ := hg1
        have hl1 := keepRow hbA hl
        have hk1 := keepRow hbA hk
        have hlt1 : w.heap.size + 1 < A₁.heap.size := (Array.getElem?_eq_some_iff.1 hl1).1
        refine ⟨_, run_beginRound hl1 (by rw [hrec]), ?_⟩
        obtain ⟨A₂, hA₂⟩ : ∃ A₂, A₁.putObj (w.heap.size + 1) (.loop { rec .ready none with state := .busy }) = A₂ := ⟨_, rfl⟩
        have hl2 : A₂.heap[w.heap.size + 1]? = some (.loop { rec .ready none with state := .busy }) := by rw [← hA₂]; exact World.putObj_heap_same hlt1
        have hk2 : A₂.heap[w.heap.size]? = some (.deferred (some [])) := by rw [← hA₂]; exact (World.putObj_heap_other (by omega)).trans hk1
        have hM2 : Mild w.heap.size A₁ A₂ := by rw [← hA₂]; exact Mild.put _ (by omega) hl1 rfl
        have hs2 : A₂.heap.size = A₁.heap.size := by rw [← hA₂]; simp
        have hrows : ∀ k, W1.heap.size ≤ k → k < A.heap.size → A₂.heap[k]? = A.heap[k]? := fun k h1 h2 => by
          rw [← hA₂]; exact (World.putObj_heap_other (by omega)).trans (hbA.block k h2)
        rw [hA₂]
        refine wpIn_mono (hgo A₂ hM2 hs2) ?_
        have fin : ∀ (jump : Option Code) (B : World), Turns F A₂ B → (Instr.endRound (w.heap.size + 1) jump).run P B = .ok (.bool jump.isNone) (B.putObj (w.heap.size + 1) (.loop (rec (if jump.isNone then .ready else .done) jump))) ∧
            Mild w.heap.size B (B.putObj (w.heap.size + 1) (.loop (rec (if jump.isNone then .ready else .done) jump))) ∧
            (B.putObj (w.heap.size + 1) (.loop (rec (if jump.isNone then .ready else .done) jump))).heap[w.heap.size + 1]? = some (.loop (rec (if jump.isNone then .ready else .done) jump)) ∧
            (B.putObj (w.heap.size + 1) (.loop (rec (if jump.isNone then .ready else .done) jump))).heap[w.heap.size]? = some (.deferred (some [])) := fun jump B hT => by
          have hl3 := (hT.block _ (Array.getElem?_eq_some_iff.1 hl2).1 hFl).trans hl2
          have hk3 := (hT.block _ (Array.getElem?_eq_some_iff.1 hk2).1 hFk).trans hk2
          have := run_endRound (P := P) jump hl3
          rw [hrec] at this ⊢
          exact ⟨this, Mild.put _ (by omega) hl3 rfl, World.putObj_heap_same (Array.getElem?_eq_some_iff.1 hl3).1, (World.putObj_heap_other (by omega)).trans hk3⟩
        rintro e a3 B hp
        cases e with
        | normal =>
          obtain ⟨hT, F', hi3, hF'⟩ := hp
          obtain ⟨hr, hm, hl4, hk4⟩ := fin none B hT
          have hsB : A.heap.size ≤ B.heap.size := by have := hT.size; have := hbA.size; omega
          refine ⟨_, _, hr, .inl ⟨rfl, F', ⟨hI _ _ _ _ hi3 hm, ?_, hl4, hk4⟩, by simpa using hsB, fun k h1 h2 hf => ?_, hF'⟩⟩
          · have := hm.size; omega
          · rw [World.putObj_heap_other (by omega), hT.block k (by have := hbA.size; omega) hf]; exact hrows k h1 h2
        | ret =>
          obtain ⟨hT, hx⟩ := hp
          obtain ⟨hr, hm, hl4, hk4⟩ := fin (some .ret) B hT
          exact ⟨_, _, hr, .inr ⟨rfl, .ret, hIx _ _ _ hx hm, by have := hm.size; have := hT.size; have := hbA.size; omega, hl4, hk4⟩⟩
        | exit id =>
          obtain ⟨hT, hx⟩ := hp
          obtain ⟨hr, hm, hl4, hk4⟩ := fin (some (.exit id)) B hT
          exact ⟨_, _, hr, .inr ⟨rfl, .exit id, hIx _ _ _ hx hm, by have := hm.size; have := hT.size; have := hbA.size; omega, hl4, hk4⟩⟩
        | goto t =>
          obtain ⟨hT, hx⟩ := hp
          obtain ⟨hr, hm, hl4, hk4⟩ := fin (some (.goto t)) B hT
          exact ⟨_, _, hr, .inr ⟨rfl, .goto t, hIx _ _ _ hx hm, by have := hm.size; have := hT.size; have := hbA.size; omega, hl4, hk4⟩⟩
        | panic ch => exact hp.elim
        | outgrown => exact hp.elim
      | exit id => exact hg1.elim
      | goto t => exact hg1.elim
      | ret => exact hg1.elim
      | panic ch => exact hg1.elim
      | outgrown => exact hg1.elim
    · rintro e B ⟨⟨v, rfl⟩, (⟨pos, F, ⟨hi, hsz, hl, hk⟩, hc⟩ | ⟨c, hx, hsz, hl, hk⟩)⟩
      · have hm : Mild w.heap.size B (B.putObj (w.heap.size + 1) (.loop { rec .ready none with state := .exhausted })) := Mild.put _ (by omega) hl rfl
        exact ⟨none, _, by have := run_endLoop (P := P) hl (by rw [hrec]; simp); rw [hrec] at this ⊢; exact this, hdone _ pos F _ (Nat.le_refl _) hc (hI _ _ _ _ hi hm) ((World.putObj_heap_other (by omega)).trans hk)⟩
      · have hm : Mild w.heap.size B (B.putObj (w.heap.size + 1) (.loop { rec .done (some c) with state := .exhausted })) := Mild.put _ (by omega) hl rfl
        exact ⟨some c, _, by have := run_endLoop (P := P) hl (by rw [hrec]; simp); rw [hrec] at this ⊢; exact this, wpIn_wide.2 (hstop _ c _ (Nat.le_refl _) (hIx _ _ _ hx hm) ((World.putObj_heap_other (by omega)).trans hk))⟩

/-! the function that holds such a loop -/
/-- no panic is let by -/
def noPanic (Q : Exit → Act → World → Prop) : Exit → Act → World → Prop
  | .panic _, _, _ => False
  | .outgrown, _, _ => False
  | .normal, a, w => Q .normal a w
  | .ret, a, w => Q .ret a w
  | .exit id, a, w => Q (.exit id) a w
  | .goto t, a, w => Q (.goto t) a w
theorem calls_of_wp_mark {P : Program} {f : FuncId} {fn : Func} {c : Code} {args : Array Value} {w : World} {R : Ending → World → Prop} (hf : P.funcs[f]? = some fn) (hb : fn.body = some c)
    (h : c.wp P (noPanic (bodyPostM Fence.wide 0 P fn R)) { tmps := args ++ Array.replicate (fn.ntmps - args.size) undef, defers := [] } w) : Calls P f args w R :=
  callsIn_wide.1 (callsIn_of_wp_marks hf hb trivial (wpIn_wide.2 (wp_mono h (fun e a w hq => by cases e <;> first | exact hq | exact hq.elim))) rfl)
/-- its end: the block for the rounds' deferred calls is shut -/
theorem mark_end {P : Program} {fn : Func} {R : Ending → World → Prop} {a : Act} {w : World} {D : Nat} (hd : a.defers = [mark D]) (hk : w.heap[D]? = some (.deferred (some [])))
    (h : bodyPost P fn R .ret { a with defers := [] } (w.putObj D (.deferred none))) : bodyPostM Fence.wide 0 P fn R .ret a w := by
  show LeavesInM Fence.wide 0 P fn a.tmps R a.defers .returning w
  rw [hd]
  refine ⟨by simp, .inl ⟨_, _, rfl, run_takeDeferred hk, ?_⟩⟩
  exact h.2
theorem mark_end_n {P : Program} {fn : Func} {R : Ending → World → Prop} {a : Act} {w : World} {D : Nat} (hd : a.defers = [mark D]) (hk : w.heap[D]? = some (.deferred (some [])))
    (h : bodyPost P fn R .ret { a with defers := [] } (w.putObj D (.deferred none))) : bodyPostM Fence.wide 0 P fn R .normal a w := mark_end hd hk h
theorem mark_none {P : Program} {fn : Func} {R : Ending → World → Prop} {a : Act} {w : World} (hd : a.defers = []) (h : bodyPost P fn R .ret a w) : bodyPostM Fence.wide 0 P fn R .ret a w := by
  show LeavesInM Fence.wide 0 P fn a.tmps R a.defers .returning w
  rw [hd]
  exact h.2
end Go.Proofs.Ytpndfhdedmdoeaa

/-
  The spans of a heap, handed one by one to a round.
-/
namespace Go.Proofs.Ytpndfhdedmdoeaa
open Go.ChangeShapes Go.WideShapes Go.ChangeAt Go.RowKit Go.Shelf
set_option linter.unusedVariables false
set_option linter.unusedSimpArgs false

theorem Held.one {w : World} {g : Nat} {t : TypeId} {c0 : Value} (h : Held w g t #[c0]) : w.cell? ⟨g, 0, none⟩ = some c0 ∧ w.frozen? ⟨g, 0, none⟩ = false := ⟨h.cell 0, h.thawed 0⟩
theorem Held.put1 {w : World} {g : Nat} {t : TypeId} {c0 : Value} (h : Held w g t #[c0]) (u : Value) : Held (w.setCell ⟨g, 0, none⟩ u) g t #[u] := h.put 0 u
theorem Held.shut {w : World} {g : Nat} {t : TypeId} {cs : Array Value} (h : Held w g t cs) {D : Nat} {o o' : Obj} (hk : w.heap[D]? = some o) (ho : o.isCells = false) : Held (w.putObj D o') g t cs := (Mild.put (D := 0) o' (Nat.zero_le _) hk ho).held h
theorem shutB {W w : World} (h : Below W.heap.size W w) {D : Nat} {o o' : Obj} (hk : w.heap[D]? = some o) (ho : o.isCells = false) (hD : W.heap.size ≤ D) : Below W.heap.size W (w.putObj D o') := (Mild.put (D := W.heap.size) o' hD hk ho).below h (Nat.le_refl _)
theorem bool_no {b : Bool} {p : Prop} (hb : b = true ↔ p) (h : ¬ p) : b = false := by cases b; rfl; exact absurd (hb.1 rfl) h
theorem bool_yes {b : Bool} {p : Prop} (hb : b = true ↔ p) (h : p) : b = true := hb.2 h

def encS (H : AuH) (q : Nat) : Array Value := #[.int .i64 (q : Int), .agg #[.int .i64 (H.K q), .int .i64 (H.ln q : Int), .int .i64 (H.Cl q)]]

section
attribute [local go_sem] Oper.semAt_some
end
end Go.Proofs.Ytpndfhdedmdoeaa

/-
  Package audit's small functions: links, bits of slots, kinds of parts.
-/
namespace Go.Proofs.Ytpndfhdedmdoeaa
open Go.ChangeShapes Go.WideShapes Go.ChangeAt Go.RowKit
set_option linter.unusedVariables false
set_option linter.unusedSimpArgs false

theorem mask_wrap (n : Nat) (hn : n ≤ 32) : IntKind.u32.wrap (IntKind.u32.wrap (2 ^ n) - 1) = ((2 ^ n - 1 : Nat) : Int) := by
  rcases Nat.lt_or_ge n 32 with h | h
  · have h1 : (2 : Nat) ^ n < 2 ^ 32 := Nat.pow_lt_pow_right (by omega) h
    have h2 : 1 ≤ (2 : Nat) ^ n := Nat.one_le_two_pow
    have e : ((2 : Int) ^ n) = ((2 ^ n : Nat) : Int) := by push_cast; rfl
    rw [e, wrap_nat32 _ h1, show ((2 ^ n : Nat) : Int) - 1 = ((2 ^ n - 1 : Nat) : Int) by omega, wrap_nat32 _ (by omega)]
  · have : n = 32 := by omega
    subst this
    decide
/-- the kind of the part that a slot is -/
def slotKd (taken live s : Nat) : Nat := if live.testBit s then 2 else if taken.testBit s then 4 else 3
end Go.Proofs.Ytpndfhdedmdoeaa
