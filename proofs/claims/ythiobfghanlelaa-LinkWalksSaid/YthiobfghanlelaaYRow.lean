/-
  A slice value that holds these values; the comparison of two lists of numbers (Ints, Longs).
-/
import Derived.Test.YthiobfghanlelaaKit
import Derived.Deep.DeepFit
import Derived.Lib.SmallJoins
import Derived.Maps.OwnSet
import Derived.Maps.RangeWalk
namespace Go.Proofs.Ythiobfghanlelaa
open Go.ChangeShapes Go.WideShapes Go.ChangeAt Go.RowKit
set_option linter.unusedVariables false

/-- a slice value whose elements, of one cell each, are these -/
def RowV (w : World) (v : Value) (xs : List Value) : Prop :=
  xs.length ≤ maxLen ∧ ((v = .slice none 0 0 ∧ xs = []) ∨ ∃ g o c, v = .slice (some ⟨g, o, none⟩) xs.length c ∧ g < w.heap.size ∧ ∀ i u, xs[i]? = some u → w.cell? ⟨g, o + i, none⟩ = some u)

theorem RowV.below {w w' : World} {v : Value} {xs : List Value} (h : RowV w v xs) (hb : Below w.heap.size w w') : RowV w' v xs := by
  refine ⟨h.1, ?_⟩
  rcases h.2 with h | ⟨g, o, c, hv, hg, hc⟩
  · exact .inl h
  · exact .inr ⟨g, o, c, hv, Nat.lt_of_lt_of_le hg hb.size, fun i u hu => (hb.cell (p := ⟨g, o + i, none⟩) hg).trans (hc i u hu)⟩

theorem RowV.alloc {w : World} {v : Value} {xs : List Value} (h : RowV w v xs) (o : Obj) : RowV (w.alloc o) v xs := h.below (Bnew (B0 _) _)
theorem RowV.of_own {w : World} {base : Nat} {e : TypeId} {v : Value} {xs : List Value} (h : w.ownsRow base e 1 v xs.length xs) : RowV w v xs := by
  rcases h.2 with ⟨rfl, hn⟩ | ⟨g, cap, cur, rfl, hb, hg, hnc, hcm, hcs, htake⟩
  · exact ⟨by omega, .inl ⟨rfl, List.eq_nil_of_length_eq_zero hn⟩⟩
  · have hl := h.lt g rfl
    refine ⟨by omega, .inr ⟨g, 0, cap, rfl, hl.2, fun i u hu => ?_⟩⟩
    have hi : i < xs.length := by
      rcases Nat.lt_or_ge i xs.length with h3 | h3
      · exact h3
      · rw [List.getElem?_eq_none h3] at hu; cases hu
    rw [Nat.zero_add, h.cellAt i (by omega), hu]

theorem Ints_same (xs : List Int) (v u : Value) (w : World) (h1 : RowV w v (xs.map (Value.int .i64))) (h2 : RowV w u (xs.map (Value.int .i64))) :
    Calls Try.prog 14 #[v, u] w fun e w' => e = .returned (.bool true) ∧ ∃ n, w' = w.drewN n := by
  have hm := h1.1
  unfold maxLen at hm
  rw [List.length_map] at hm
  by_cases hx : xs = []
  · subst hx
    have hv : ∃ A c, v = .slice A 0 c := by
      rcases h1.2 with ⟨rfl, _⟩ | ⟨g, o, c, rfl, _⟩
      · exact ⟨_, _, rfl⟩
      · exact ⟨_, _, rfl⟩
    have hu : ∃ A c, u = .slice A 0 c := by
      rcases h2.2 with ⟨rfl, _⟩ | ⟨g, o, c, rfl, _⟩
      · exact ⟨_, _, rfl⟩
      · exact ⟨_, _, rfl⟩
    obtain ⟨A, c, rfl⟩ := hv
    obtain ⟨B, d, rfl⟩ := hu
    clear h1 h2
    go_enter Try.func14, Try.ntmps14
    go_wp2
    refine wp_loop_rounds 1 ?_
    rw [rounds_succ]
    go_wp2
    go_ret
    exact ⟨rfl, 0, rfl⟩
  · rcases h1.2 with ⟨_, h⟩ | ⟨g, o, c, rfl, _, hc⟩
    · exact absurd (by simpa using h) hx
    rcases h2.2 with ⟨_, h⟩ | ⟨g2, o2, c2, rfl, _, hc2⟩
    · exact absurd (by simpa using h) hx
    have HC : Hid (∀ k, k < xs.length → w.cell? ⟨g, o + k, none⟩ = some (.int .i64 (xs.getD k 0))) := hidp (fun k hk => hc k _ (by simp [hk]))
    have HC2 : Hid (∀ k, k < xs.length → w.cell? ⟨g2, o2 + k, none⟩ = some (.int .i64 (xs.getD k 0))) := hidp (fun k hk => hc2 k _ (by simp [hk]))
    clear hc hc2 h1 h2 hx
    rw [List.length_map]
    generalize hn : xs.length = n at *
    clear hn
    go_enter Try.func14, Try.ntmps14
    go_wp2
    go_loopw [5] (fun i wr => ∃ k m : Nat, k ≤ n ∧ i = .int .i64 k ∧ wr = w.drewN m) (fun i _ => n - (intOf i).toNat)
    case atStart => exact ⟨0, 0, by omega, rfl, rfl⟩
    case round =>
      obtain ⟨k, m, hk, rfl, rfl⟩ := hrel
      by_cases hlt : k < n
      · have c1 := HC.out k hlt
        have c2 := HC2.out k hlt
        generalize xs.getD k 0 = x at *
        go_wp2
        go_quiet (fail)
        go_wp2
        go_roundw
        case rel => exact ⟨k + 1, _, by omega, by go_num, rfl⟩
        case measure => simp [intOf]; omega
      · go_wp2
        go_ret
        exact ⟨rfl, m, rfl⟩

theorem longInfo : (Try.prog.info? 2).map (fun i => (i.zero, i.size, i.bytes)) = some (some (.int .i64 0), 1, 8) := by kernel_rfl
theorem intInfo : (Try.prog.info? 3).map (fun i => (i.zero, i.size, i.bytes)) = some (some (.int .i64 0), 1, 8) := by kernel_rfl
end Go.Proofs.Ythiobfghanlelaa

/-
  A slice of values of 32 bits that came in, opened.
-/
namespace Go.Proofs.Ythiobfghanlelaa
open Go.ChangeShapes Go.WideShapes Go.ChangeAt Go.RowKit
set_option linter.unusedVariables false

def u32Vs (l : List Nat) : List Value := l.map fun (n : Nat) => Value.int .u32 (n : Int)
theorem u32Vs_len (l : List Nat) : (u32Vs l).length = l.length := by unfold u32Vs; simp

section
variable {H : Type} {enc : TypeId × Value → H} {P : Program} {w : World} {base : Nat} {sp : Nat → Bool} {held : Bool}
/-- a slice of values that came in: nil or not, it reads as a list of values -/
theorem open_u32s {t e : TypeId} {v : Value} {d : DataW H} {p : List MemPlace} (ht : P.underlying t = some (.slice e)) (he : P.underlying e = some (.int .u32)) (hc : P.cellsOf e = 1)
    {r : Reach} {b0 : Nat} (hval : Value.okWide P w r b0 t v) (h : DataW.Trod enc P w base sp held t v d p) (hlt : ∀ x ∈ p, x.block < w.heap.size) :
    ∃ (A : Option Addr) (c : Nat) (ws : List Nat), v = .slice A ws.length c ∧ ws.length ≤ c ∧ c ≤ maxLen ∧ (∀ x ∈ ws, x < 2 ^ 32) ∧ Reads w w.heap.size 1 A ws.length (u32Vs ws) := by
  obtain ⟨fuel, hf⟩ := h
  have hv : v.cells = #[v] := by
    obtain ⟨A, n, c, rfl⟩ := okWide_slice ht hval
    rfl
  rw [hv] at hf
  rcases open_ints ht he hc hf with ⟨hcs, _⟩ | ⟨a, len, cap, zs, hcs, hb, hl, hm, hz, hx, hcell, hwf⟩
  · injection hcs with hcs
    subst hcs
    exact ⟨none, 0, [], rfl, Nat.le_refl _, Nat.zero_le _, by simp, Reads.none_⟩
  · injection hcs with hcs
    subst hcs
    have hlz : len ≤ zs.length := by rw [hz]; split <;> omega
    have hlen : ((zs.take len).map Int.toNat).length = len := by simp; omega
    refine ⟨some a, cap, (zs.take len).map Int.toNat, by rw [hlen], by rw [hlen]; exact hl, hm, ?_, ?_⟩
    · intro x hx
      obtain ⟨z, hz1, rfl⟩ := List.mem_map.1 hx
      obtain ⟨n, rfl, hn⟩ := u32_nat (hwf z (List.mem_of_mem_take hz1))
      simpa using hn
    · refine ⟨by rw [u32Vs_len]; omega, fun hn => ?_⟩
      rw [hlen] at hn
      refine ⟨a, rfl, ?_, fun j u hu => ?_⟩
      · have hp : (p : List MemPlace) = MemPlace.row a zs.length := by
          have := congrArg Prod.snd hx
          simpa using this
        have h0 : MemPlace.cell a.block a.off ∈ p ∨ (∃ x ∈ p, x.block = a.block) := by
          right
          rw [hp]
          refine ⟨(MemPlace.row a zs.length)[0]'(by simp [MemPlace.row]; omega), List.getElem_mem _, ?_⟩
          simp [MemPlace.row, MemPlace.block]
        rcases h0 with h0 | ⟨x, hx1, hx2⟩
        · exact hlt _ h0
        · rw [← hx2]; exact hlt x hx1
      · unfold u32Vs at hu
        rw [List.map_map] at hu
        have hj : j < len := by
          rcases Nat.lt_or_ge j len with h1 | h1
          · exact h1
          · rw [List.getElem?_eq_none (by simp; omega)] at hu; cases hu
        rw [List.getElem?_map, List.getElem?_take_of_lt hj, List.getElem?_eq_getElem (by omega)] at hu
        simp only [Option.map_some, Option.some.injEq, Function.comp_apply] at hu
        subst hu
        rw [hcell j (by omega)]
        have hw := hwf zs[j] (List.getElem_mem _)
        obtain ⟨n, hn1, _⟩ := u32_nat hw
        have : (zs.getD j 0) = zs[j] := by simp [List.getD, List.getElem?_eq_getElem (show j < zs.length by omega)]
        rw [this, hn1]
        simp
end
end Go.Proofs.Ythiobfghanlelaa

/-
  How a configuration that came in is opened.
-/
namespace Go.Proofs.Ythiobfghanlelaa
open Go.ChangeShapes Go.WideShapes Go.ChangeAt Go.RowKit
set_option linter.unusedVariables false
set_option linter.unusedSimpArgs false

set_option maxRecDepth 100000 in
theorem open_conf {H : Type} {enc : TypeId × Value → H} {W : World} {b base : Nat} {sp : Nat → Bool} {held : Bool} {v : Value} {d : DataW H} {p : List MemPlace}
    (hv : Value.okWide Try.prog W .any b 23 v) (h : DataW.Trod enc Try.prog W base sp held 23 v d p) :
    ∃ (t q s : Int), v = .agg #[.int .i64 t, .int .i64 q, .int .i64 s] := by
  obtain ⟨v0, v1, v2, y0, y1, y2, m, rfl, rfl, rfl, h0, h1, h2⟩ := Joins.open_agg3 Try.underlying23 (by kernel_rfl) (by kernel_rfl) hv h
  obtain ⟨a, e0, _, w0⟩ := DataW.trod_int Try.underlying3 h0
  obtain ⟨c, e1, _, w1⟩ := DataW.trod_int Try.underlying3 h1
  obtain ⟨k, e2, _, w2⟩ := DataW.trod_int Try.underlying3 h2
  simp at e0 e1 e2
  subst e0 e1 e2
  exact ⟨a, c, k, rfl⟩
end Go.Proofs.Ythiobfghanlelaa

/-
  Words for memory that a call writes to: which blocks may turn (Turns), a row of cells told as a function (RowF), a map that is cleared. No program is named here.
-/
namespace Go.Proofs.Ythiobfghanlelaa
open Go.ChangeShapes Go.WideShapes Go.ChangeAt Go.RowKit Go.Maps
set_option linter.unusedVariables false

/-- w' is w but for the blocks of F, and for new ones -/
structure Turns (F : Nat → Prop) (w w' : World) : Prop where
  os : w'.os = w.os
  tape : w'.tape = w.tape
  output : w'.output = w.output
  size : w.heap.size ≤ w'.heap.size
  block : ∀ i, i < w.heap.size → ¬ F i → w'.heap[i]? = w.heap[i]?

section
variable {F G : Nat → Prop} {w w' w'' : World}
theorem T0 (F : Nat → Prop) (w : World) : Turns F w w := ⟨rfl, rfl, rfl, Nat.le_refl _, fun _ _ _ => rfl⟩
theorem Turns.trans (h : Turns F w w') (k : Turns F w' w'') : Turns F w w'' :=
  ⟨k.os.trans h.os, k.tape.trans h.tape, k.output.trans h.output, Nat.le_trans h.size k.size, fun i hi hf => (k.block i (Nat.lt_of_lt_of_le hi h.size) hf).trans (h.block i hi hf)⟩
theorem Turns.more (h : Turns F w w') (hg : ∀ i, F i → G i) : Turns G w w' := ⟨h.os, h.tape, h.output, h.size, fun i hi hf => h.block i hi (fun x => hf (hg i x))⟩
theorem Turns.more_new {W : World} (h : Turns F w w') (hs : W.heap.size ≤ w.heap.size) (hb : Turns G W w) (hg : ∀ i, F i → G i ∨ W.heap.size ≤ i) : Turns G W w' :=
  ⟨h.os.trans hb.os, h.tape.trans hb.tape, h.output.trans hb.output, Nat.le_trans hs h.size, fun i hi hf => (h.block i (Nat.lt_of_lt_of_le hi hs) (fun x => by
    rcases hg i x with h1 | h1
    · exact hf h1
    · omega)).trans (hb.block i hi hf)⟩
theorem Turns.of_below (h : Below w.heap.size w w') (F : Nat → Prop) : Turns F w w' := ⟨h.os, h.tape, h.output, h.size, fun i hi _ => h.block i hi⟩
theorem Turns.of_grown {b : Nat} (h : w.grownBy w' (some b)) (hb : F b) : Turns F w w' := ⟨h.os, h.tape, h.output, h.size, fun i hi hf => h.block i hi (fun e => by injection e with e; subst e; exact hf hb)⟩
theorem Turns.draw (h : Turns F w w') (n : Nat) : Turns F w (w'.drewN n) := ⟨h.os, h.tape, h.output, h.size, h.block⟩
theorem Turns.drew (h : Turns F w w') : Turns F w w'.drew := ⟨h.os, h.tape, h.output, h.size, h.block⟩
theorem Turns.alloc (h : Turns F w w') (o : Obj) : Turns F w (w'.alloc o) := h.trans (Turns.of_below (Bnew (B0 _) o) F)
theorem Turns.put (h : Turns F w w') {p : Addr} (hp : F p.block) (u : Value) : Turns F w (w'.setCell p u) :=
  ⟨h.os, h.tape, h.output, by simp; exact h.size, fun i hi hf => (Below.heap_setCell w' p u i (fun e => by subst e; exact hf hp)).trans (h.block i hi hf)⟩
theorem Turns.put_new (h : Turns F w w') {p : Addr} (hp : w.heap.size ≤ p.block) (u : Value) : Turns F w (w'.setCell p u) :=
  ⟨h.os, h.tape, h.output, by simp; exact h.size, fun i hi hf => (Below.heap_setCell w' p u i (fun e => by omega)).trans (h.block i hi hf)⟩
theorem Turns.below {W : World} (h : Turns F w w') (hb : Below W.heap.size W w) (hf : ∀ i, F i → W.heap.size ≤ i) : Below W.heap.size W w' :=
  ⟨h.os.trans hb.os, h.tape.trans hb.tape, h.output.trans hb.output, Nat.le_trans hb.size h.size, fun i hi => (h.block i (Nat.lt_of_lt_of_le hi hb.size) (fun x => by have := hf i x; omega)).trans (hb.block i hi)⟩
theorem Turns.held {g : Nat} {t : TypeId} {cs : Array Value} (h : Turns F w w') (hg : Held w g t cs) (hf : ¬ F g) : Held w' g t cs := (h.block g hg.lt hf).trans hg
end

/-! a row of cells, told as a function of the place -/
def updF {α : Type} (f : Nat → α) (i : Nat) (u : α) : Nat → α := fun j => if j = i then u else f j
theorem updF_same {α : Type} (f : Nat → α) (i : Nat) (u : α) : updF f i u i = u := if_pos rfl
theorem updF_other {α : Type} (f : Nat → α) {i j : Nat} (u : α) (h : j ≠ i) : updF f i u j = f j := if_neg h
theorem updF_map {α β : Type} (f : Nat → α) (i : Nat) (u : α) (m : α → β) : (fun j => m (updF f i u j)) = updF (fun j => m (f j)) i (m u) := by
  funext j
  unfold updF
  split <;> rfl

/-- block g is a row of c cells, of which the first n are told by f -/
def RowF (w : World) (g : Nat) (t : TypeId) (n c : Nat) (f : Nat → Value) : Prop :=
  ∃ cs : Array Value, Held w g t cs ∧ cs.size = c ∧ n ≤ c ∧ c ≤ maxLen ∧ ∀ i, i < n → cs[i]? = some (f i)

section
variable {w w' : World} {g : Nat} {t : TypeId} {n c : Nat} {f : Nat → Value}
theorem RowF.lt (h : RowF w g t n c f) : g < w.heap.size := by obtain ⟨cs, h1, _⟩ := h; exact h1.lt
theorem RowF.le (h : RowF w g t n c f) : n ≤ c := by obtain ⟨cs, _, _, h1, _⟩ := h; exact h1
theorem RowF.max (h : RowF w g t n c f) : c ≤ maxLen := by obtain ⟨cs, _, _, _, h1, _⟩ := h; exact h1
theorem RowF.cell (h : RowF w g t n c f) {i : Nat} (hi : i < n) : w.cell? ⟨g, i, none⟩ = some (f i) := by
  obtain ⟨cs, h1, _, _, _, h2⟩ := h
  exact (h1.cell i).trans (h2 i hi)
theorem RowF.thawed (h : RowF w g t n c f) (i : Nat) : w.frozen? ⟨g, i, none⟩ = false := by obtain ⟨cs, h1, _⟩ := h; exact h1.thawed i
theorem RowF.same (h : RowF w g t n c f) (hb : w'.heap[g]? = w.heap[g]?) : RowF w' g t n c f := by
  obtain ⟨cs, h1, r⟩ := h
  exact ⟨cs, hb.trans h1, r⟩
theorem RowF.turns {F : Nat → Prop} (h : RowF w g t n c f) (hb : Turns F w w') (hf : ¬ F g) : RowF w' g t n c f := h.same (hb.block g h.lt hf)
theorem RowF.keep (h : RowF w g t n c f) (hb : Below w.heap.size w w') : RowF w' g t n c f := h.same (hb.block g h.lt)
theorem RowF.put (h : RowF w g t n c f) {i : Nat} (hi : i < n) (u : Value) : RowF (w.setCell ⟨g, i, none⟩ u) g t n c (updF f i u) := by
  obtain ⟨cs, h1, h2, h3, h4, h5⟩ := h
  refine ⟨_, h1.put i u, by simp [h2], h3, h4, fun j hj => ?_⟩
  by_cases e : j = i
  · subst e
    rw [updF_same]
    simp [Array.getElem?_setIfInBounds]
    omega
  · rw [updF_other _ _ e, Array.getElem?_setIfInBounds_ne (by omega)]
    exact h5 j hj
theorem RowF.far (h : RowF w g t n c f) {p : Addr} (hp : g ≠ p.block) (u : Value) : RowF (w.setCell p u) g t n c f := h.same (Below.heap_setCell w p u g hp)
theorem RowF.congr {f' : Nat → Value} (h : RowF w g t n c f) (e : ∀ i, i < n → f i = f' i) : RowF w g t n c f' := by
  obtain ⟨cs, h1, h2, h3, h4, h5⟩ := h
  exact ⟨cs, h1, h2, h3, h4, fun i hi => by rw [h5 i hi, e i hi]⟩
theorem RowF.of_own {base : Nat} {e : TypeId} {cap : Nat} (h : w.ownsRow base e 1 (.slice (some ⟨g, 0, none⟩) n cap) n ((List.range n).map f)) : base ≤ g ∧ RowF w g e n cap f := by
  rcases h.2 with ⟨h1, _⟩ | ⟨g', cap', cur, hv, hb, hg, hnc, hcm, hcs, htake⟩
  · cases h1
  · injection hv with h1 h2 h3
    injection h1 with h1
    injection h1 with h1
    subst h1
    subst h3
    refine ⟨hb, cur, hg, by simpa using hcs, by omega, by omega, fun i hi => ?_⟩
    have h4 := h.cellAt i (by omega)
    rw [Held.cell hg i] at h4
    rw [h4]
    simp [hi]
theorem RowF.reads (h : RowF w g t n c f) {B : Nat} (hB : g < B) : Reads w B 1 (some ⟨g, 0, none⟩) n ((List.range n).map f) := by
  refine ⟨by simp, fun hn => ⟨_, rfl, hB, fun j u hu => ?_⟩⟩
  have hj : j < n := by
    rcases Nat.lt_or_ge j n with h1 | h1
    · exact h1
    · rw [List.getElem?_eq_none (by simp; omega)] at hu; cases hu
  have e : (⟨g, 0, none⟩ : Addr).add j = ⟨g, j, none⟩ := by
    unfold Addr.add
    by_cases hz : j = 0
    · rw [if_pos hz, hz]
    · rw [if_neg hz]; simp
  rw [e, h.cell hj]
  rw [List.getElem?_map, List.getElem?_range hj] at hu
  exact hu
end

/-! a map that is cleared -/
section
variable {H : Type} {P : Program} {k : TypeId} {R : Value → Option (DataW H × List MemPlace)} {w : World} {b n : Nat} {D : DataW H}
theorem owns_clear {t e : TypeId} (h : w.ownsMap P k R b n D) (ht : P.underlying t = some (.map k e)) (ty : TypeId) :
    ∃ w', (Builtin.clear_ #[t] ty #[.map (some b)]).run P w = .ok (.tuple #[]) w' ∧ w'.ownsMap P k R b 0 (.map []) ∧ w.mapTurned w' b := by
  obtain ⟨es, clock, hb, F, hs, rfl⟩ := h
  refine ⟨ChangeMaps.setBlock w b (.map #[] clock), ?_, ⟨#[], clock, ChangeMaps.heap_setBlock_same hb _, ⟨by simp, MapKept.stamped_empty clock, by simp⟩, Nat.le_refl _, rfl⟩, ⟨es, clock, #[], clock, hb, rfl⟩⟩
  simp [Builtin.clear_, run_underlying ht, MapKept.run_getObj_map hb, MapKept.run_setObj_map _ hb, Result.andThen]
  rfl
theorem owns_turns {F : Nat → Prop} {w' : World} (h : w.ownsMap P k R b n D) (hb : Turns F w w') (hf : ¬ F b) : w'.ownsMap P k R b n D := by
  have hlt := h.lt
  obtain ⟨es, clock, h1, r⟩ := h
  exact ⟨es, clock, (hb.block b hlt hf).trans h1, r⟩
theorem owns_tight (h : w.ownsMap P k R b n D) : w.ownsMap P k R b (Maps.size D) D := by
  obtain ⟨es, clock, hb, F, hs, rfl⟩ := h
  exact ⟨es, clock, hb, F, by simp [Maps.size, length_sorted], rfl⟩
end
section
variable {H : Type} {P : Program} (w : World) {ops : Array Oper} {rest : List Oper} {o : Oper} {a : Act} {Q : Exit → Act → World → Prop}
theorem wpList_clear_own (hg : o.guard = none) (m : Operand) (t : TypeId) (hop : o.op = Op.call { callee := Callee.builtin Builtin.clear, args := #[m], argTypes := #[t] })
    (k e : TypeId) (ht : P.underlying t = some (.map k e)) (R : Value → Option (DataW H × List MemPlace)) (b n : Nat) (D : DataW H)
    (hm : a.eval m = .map (some b)) (h : w.ownsMap P k R b n D)
    (hK : ∀ w', w'.ownsMap P k R b 0 (.map [] : DataW H) → w.mapTurned w' b → wpList P ops Q rest (a.put o.dst (.tuple #[])) w') :
    wpList P ops Q (o :: rest) a w := by
  refine wpList_plain hg fun K' hK' => ?_
  obtain ⟨w', hrun, r2, r3⟩ := owns_clear h ht o.type
  unfold Oper.wp
  simp [execOp, hop, resolve, invoke, builtin, hm, hrun, Result.andThen]
  exact hK' _ _ (hK w' r2 r3)
end
end Go.Proofs.Ythiobfghanlelaa

/-
  A struct of several slices, each a row of the call's own: which rows they are (OwnAll), a store into one, an append to one, a store into the struct. No program is named here.
-/
namespace Go.Proofs.Ythiobfghanlelaa
open Go.ChangeShapes Go.WideShapes Go.ChangeAt Go.RowKit Go.Maps
set_option linter.unusedVariables false

/-- k slice values v, of n elements of sz cells each, that own their rows xs from block base on; no two lie in one block, and none in block b -/
structure OwnAll (w : World) (base b k : Nat) (e : Nat → TypeId) (sz : Nat → Nat) (v : Nat → Value) (n : Nat → Nat) (xs : Nat → List Value) : Prop where
  own : ∀ i, i < k → w.ownsRow base (e i) (sz i) (v i) (n i) (xs i)
  apart : ∀ i j g, i < k → j < k → (v i).ownBlock = some g → (v j).ownBlock = some g → i = j
  notb : ∀ i, i < k → (v i).ownBlock ≠ some b
/-- the blocks that such a struct at b stands in -/
def OwnF (b k : Nat) (v : Nat → Value) : Nat → Prop := fun g => g = b ∨ ∃ i, i < k ∧ (v i).ownBlock = some g

section
variable {w w' : World} {base b k : Nat} {e : Nat → TypeId} {sz : Nat → Nat} {v : Nat → Value} {n : Nat → Nat} {xs : Nat → List Value}
theorem own_kept {e : TypeId} {size n : Nat} {v : Value} {xs : List Value} (h : w.ownsRow base e size v n xs) (hb : ∀ g, v.ownBlock = some g → w'.heap[g]? = w.heap[g]?) : w'.ownsRow base e size v n xs := by
  refine ⟨h.1, ?_⟩
  rcases h.2 with h2 | ⟨g, cap, cur, rfl, hbg, hg, hr⟩
  · exact .inl h2
  · exact .inr ⟨g, cap, cur, rfl, hbg, (hb g rfl).trans hg, hr⟩
theorem OwnAll.lt (h : OwnAll w base b k e sz v n xs) {i g : Nat} (hi : i < k) (hg : (v i).ownBlock = some g) : base ≤ g ∧ g < w.heap.size := (h.own i hi).lt g hg
theorem OwnAll.turns {F : Nat → Prop} (h : OwnAll w base b k e sz v n xs) (ht : Turns F w w') (hf : ∀ i g, i < k → (v i).ownBlock = some g → ¬ F g) : OwnAll w' base b k e sz v n xs :=
  ⟨fun i hi => own_kept (h.own i hi) (fun g hg => ht.block g (h.lt hi hg).2 (hf i g hi hg)), h.apart, h.notb⟩
theorem OwnAll.keep (h : OwnAll w base b k e sz v n xs) (hb : Below w.heap.size w w') : OwnAll w' base b k e sz v n xs := h.turns (F := fun _ => False) (Turns.of_below hb _) (fun _ _ _ _ x => x)
theorem OwnAll.setB (h : OwnAll w base b k e sz v n xs) (o : Nat) (u : Value) : OwnAll (w.setCell ⟨b, o, none⟩ u) base b k e sz v n xs :=
  h.turns ((T0 (fun i => i = b) w).put (p := ⟨b, o, none⟩) rfl u) (fun i g hi hg hf => h.notb i hi (by rw [hg, hf]))
theorem OwnAll.form (h : OwnAll w base b k e sz v n xs) {i : Nat} (hi : i < k) (hn : 0 < n i) : ∃ g cap, v i = .slice (some ⟨g, 0, none⟩) (n i) cap ∧ base ≤ g ∧ g < w.heap.size := (h.own i hi).form hn
theorem OwnAll.cell (h : OwnAll w base b k e sz v n xs) {i g cap : Nat} (hi : i < k) (hv : v i = .slice (some ⟨g, 0, none⟩) (n i) cap) {j : Nat} (hj : j < n i * sz i) :
    w.cell? ⟨g, j, none⟩ = (xs i)[j]? ∧ w.frozen? ⟨g, j, none⟩ = false := by
  have h1 := h.own i hi
  rw [hv] at h1
  exact ⟨h1.cellAt j hj, h1.frozenAt j⟩
/-- a store into one row -/
theorem OwnAll.put (h : OwnAll w base b k e sz v n xs) {i g cap : Nat} (hi : i < k) (hv : v i = .slice (some ⟨g, 0, none⟩) (n i) cap) (j : Nat) (u : Value) :
    OwnAll (w.setCell ⟨g, j, none⟩ u) base b k e sz v n (updF xs i ((xs i).set j u)) ∧ Turns (fun x => x = g) w (w.setCell ⟨g, j, none⟩ u) := by
  have hg : (v i).ownBlock = some g := by rw [hv]; rfl
  have ht : Turns (fun x => x = g) w (w.setCell ⟨g, j, none⟩ u) := (T0 (fun x => x = g) w).put (p := ⟨g, j, none⟩) rfl u
  refine ⟨⟨fun i' hi' => ?_, h.apart, h.notb⟩, ht⟩
  by_cases e1 : i' = i
  · subst e1
    rw [updF_same]
    have h1 := h.own i' hi'
    rw [hv] at h1 ⊢
    exact (h1.stored j u).1
  · rw [updF_other _ _ e1]
    exact own_kept (h.own i' hi') (fun g' hg' => ht.block g' (h.lt hi' hg').2 (fun e2 => e1 (h.apart i' i g' hi' hi hg' (by rw [hg, e2]))))
/-- one slice is another one: its own row was appended to, in place or in a new block -/
theorem OwnAll.grown (h : OwnAll w base b k e sz v n xs) (hbl : b < w.heap.size) {i : Nat} (hi : i < k) {v' : Value} {n' : Nat} {xs' : List Value} (hown : w'.ownsRow base (e i) (sz i) v' n' xs') (hg : w.grownBy w' (v i).ownBlock)
    (hloc : ∀ g, v'.ownBlock = some g → (v i).ownBlock = some g ∨ w.heap.size ≤ g) : OwnAll w' base b k e sz (updF v i v') (updF n i n') (updF xs i xs') := by
  refine ⟨fun i' hi' => ?_, fun i1 i2 g h1 h2 g1 g2 => ?_, fun i' hi' hb' => ?_⟩
  · by_cases e1 : i' = i
    · subst e1
      rw [updF_same, updF_same, updF_same]
      exact hown
    · rw [updF_other _ _ e1, updF_other _ _ e1, updF_other _ _ e1]
      exact own_kept (h.own i' hi') (fun g' hg' => hg.block g' (h.lt hi' hg').2 (fun e2 => e1 (h.apart i' i g' hi' hi hg' e2.symm)))
  · by_cases e1 : i1 = i <;> by_cases e2 : i2 = i
    · rw [e1, e2]
    · exfalso
      subst e1
      rw [updF_same] at g1
      rw [updF_other _ _ e2] at g2
      rcases hloc g g1 with h3 | h3
      · exact e2 (h.apart i2 i1 g h2 h1 g2 h3)
      · have := (h.lt h2 g2).2; omega
    · exfalso
      subst e2
      rw [updF_same] at g2
      rw [updF_other _ _ e1] at g1
      rcases hloc g g2 with h3 | h3
      · exact e1 (h.apart i1 i2 g h1 h2 g1 h3)
      · have := (h.lt h1 g1).2; omega
    · rw [updF_other _ _ e1] at g1
      rw [updF_other _ _ e2] at g2
      exact h.apart i1 i2 g h1 h2 g1 g2
  · by_cases e1 : i' = i
    · subst e1
      rw [updF_same] at hb'
      rcases hloc b hb' with h3 | h3
      · exact h.notb i' hi' h3
      · omega
    · rw [updF_other _ _ e1] at hb'
      exact h.notb i' hi' hb'
/-- nothing yet: all are nil -/
theorem OwnAll.nil (w : World) (base b k : Nat) (e : Nat → TypeId) (sz : Nat → Nat) : OwnAll w base b k e sz (fun _ => .slice none 0 0) (fun _ => 0) (fun _ => []) :=
  ⟨fun i _ => World.ownsRow_nil _ _ _ _, fun i j g _ _ h => by simp [Value.ownBlock] at h, fun i _ h => by simp [Value.ownBlock] at h⟩
theorem OwnAll.F_new (h : OwnAll w base b k e sz v n xs) (hb : base ≤ b) : ∀ g, OwnF b k v g → base ≤ g := fun g hg => by
  rcases hg with rfl | ⟨i, hi, hg⟩
  · exact hb
  · exact (h.lt hi hg).1
theorem OwnAll.F_lt (h : OwnAll w base b k e sz v n xs) (hb : b < w.heap.size) : ∀ g, OwnF b k v g → g < w.heap.size := fun g hg => by
  rcases hg with rfl | ⟨i, hi, hg⟩
  · exact hb
  · exact (h.lt hi hg).2
/-- behind an append the struct stands in the blocks that it stood in, and new ones -/
theorem OwnF_grown {v' : Value} {i : Nat} (hi : i < k) (hloc : ∀ g, v'.ownBlock = some g → (v i).ownBlock = some g ∨ w.heap.size ≤ g) : ∀ g, OwnF b k (updF v i v') g → OwnF b k v g ∨ w.heap.size ≤ g := fun g hg => by
  rcases hg with rfl | ⟨j, hj, hg⟩
  · exact .inl (.inl rfl)
  · by_cases e1 : j = i
    · subst e1
      rw [updF_same] at hg
      rcases hloc g hg with h1 | h1
      · exact .inl (.inr ⟨j, hj, h1⟩)
      · exact .inr h1
    · rw [updF_other _ _ e1] at hg
      exact .inl (.inr ⟨j, hj, hg⟩)
end
end Go.Proofs.Ythiobfghanlelaa
