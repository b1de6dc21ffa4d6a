/-
  What values of cells are, as functions: which pages spans begin at, and when they go up to the end. No program is named here.
-/
import Derived.Test.YtioolaaphbddbaaGreatDoorP04
import Derived.Deep.RegionHeld3
import Derived.IntWalk
import Derived.KernelRfl
namespace Go.Proofs.YtioolaaphbddbaaGreatDoor
open Go.ChangeShapes Go.WideShapes Go.ChangeAt Go.RowKit
set_option linter.unusedVariables false
section
structure AuH where
  t : Nat
  p : Nat
  s : Nat
  V : Nat → Nat

namespace AuH
variable (H : AuH)
def cel (q b : Nat) : Nat := H.V (30 + 4 * H.t + 6 * q + b)
def K (q : Nat) : Int := (infoG (H.cel q 0)).1
def L (q : Nat) : Int := (infoG (H.cel q 0)).2.1
def Cl (q : Nat) : Int := (infoG (H.cel q 0)).2.2.1
def ok (q : Nat) : Bool := (infoG (H.cel q 0)).2.2.2
def ln (q : Nat) : Nat := (H.L q).toNat
theorem info_eq (q : Nat) : infoG (H.cel q 0) = (H.K q, H.L q, H.Cl q, H.ok q) := rfl
theorem infoP_at (q : Nat) : infoP (H.K q) (H.L q) (H.Cl q) := by
  cases hb : H.ok q
  · have h := H.info_eq q
    rw [hb] at h
    exact .inl (infoG_none h)
  · have h := H.info_eq q
    rw [hb] at h
    exact infoB_iff (infoG_back h).1
theorem ok_of (q : Nat) (h : H.K q ≠ 0) : H.ok q = true := by
  cases hb : H.ok q
  · have h2 := H.info_eq q
    rw [hb] at h2
    exact absurd (infoG_none h2).1 h
  · rfl
theorem K_cases (q : Nat) : (H.K q = 0 ∧ H.ln q = 0 ∧ H.Cl q = 0) ∨ ((H.K q = 1 ∨ H.K q = 2) ∧ 1 ≤ H.ln q ∧ H.ln q ≤ 1024 ∧ H.Cl q = 0) ∨ (H.K q = 3 ∧ H.ln q = 1 ∧ 0 ≤ H.Cl q ∧ H.Cl q ≤ 8) := by
  have h := H.infoP_at q
  unfold infoP at h
  unfold ln
  omega
theorem L_ln (q : Nat) : H.L q = (H.ln q : Int) := by
  have h := H.infoP_at q
  unfold infoP at h
  unfold ln
  omega
theorem K_zero (q : Nat) (h : H.cel q 0 = 0) : H.K q = 0 ∧ H.ok q = true := by
  have e : infoG 0 = (0, 0, 0, true) := by decide
  unfold K ok
  rw [h, e]
  exact ⟨rfl, rfl⟩
theorem ln_pos (q : Nat) (h : H.K q ≠ 0) : 1 ≤ H.ln q ∧ H.ln q ≤ 1024 := by
  have := H.K_cases q
  omega

def can (q : Nat) : Bool := decide (q < H.p ∧ H.K q ≠ 0 ∧ q + H.ln q ≤ H.p)
def nx (q : Nat) : Nat := q + H.ln q
theorem can_iff (q : Nat) : H.can q = true ↔ q < H.p ∧ H.K q ≠ 0 ∧ q + H.ln q ≤ H.p := by unfold can; exact decide_eq_true_iff
theorem can_no (q : Nat) : H.can q = false ↔ ¬ (q < H.p ∧ H.K q ≠ 0 ∧ q + H.ln q ≤ H.p) := by unfold can; exact decide_eq_false_iff_not
theorem nx_gt {q : Nat} (h : H.can q = true) : q < H.nx q ∧ H.nx q ≤ H.p := by
  have h := (H.can_iff q).1 h
  have := H.ln_pos q h.2.1
  unfold nx
  omega

inductive At : Nat → Prop where
  | zero : At 0
  | step {q : Nat} : At q → H.can q = true → At (H.nx q)
variable {H}
theorem At.le {q : Nat} (h : H.At q) : q ≤ H.p := by
  cases h with
  | zero => omega
  | step h hc => exact (H.nx_gt hc).2
theorem At.chain : ∀ (n a b : Nat), a + b ≤ n → H.At a → H.At b → a < b → H.can a = true ∧ H.nx a ≤ b := by
  intro n
  induction n with
  | zero => intro a b h _ _ hl; omega
  | succ n ih =>
    intro a b h ha hb hl
    cases hb with
    | zero => omega
    | step hb0 hc =>
      rename_i b0
      have h0 := H.nx_gt hc
      rcases Nat.lt_trichotomy a b0 with h1 | h1 | h1
      · have := ih a b0 (by omega) ha hb0 h1
        exact ⟨this.1, by omega⟩
      · subst h1
        exact ⟨hc, Nat.le_refl _⟩
      · have := ih b0 a (by omega) hb0 ha h1
        omega
theorem At.next {a b : Nat} (ha : H.At a) (hb : H.At b) (h : a < b) : H.can a = true ∧ H.nx a ≤ b := At.chain _ a b (Nat.le_refl _) ha hb h
theorem At.cover {x : Nat} (h : H.At x) : ∀ q, q < x → ∃ a, H.At a ∧ H.can a = true ∧ a ≤ q ∧ q < H.nx a := by
  induction h with
  | zero => intro q hq; omega
  | step h hc ih =>
    rename_i a
    intro q hq
    rcases Nat.lt_or_ge q a with h1 | h1
    · exact ih q h1
    · exact ⟨a, h, hc, h1, hq⟩
variable (H)
def Bare (x : Nat) : Prop := ∀ a, H.At a → H.can a = true → a < x → ∀ q, a < q → q < H.nx a → H.cel q 0 = 0
def Tiled : Prop := H.At H.p ∧ H.Bare H.p
variable {H}
theorem Bare.step {a : Nat} (h : H.Bare a) (ha : H.At a) (hb : ∀ q, a < q → q < H.nx a → H.cel q 0 = 0) : H.Bare (H.nx a) := by
  intro b hb1 hb2 hb3 q h1 h2
  rcases Nat.lt_trichotomy b a with h3 | h3 | h3
  · exact h b hb1 hb2 h3 q h1 h2
  · subst h3; exact hb q h1 h2
  · have := (At.next ha hb1 h3).2; omega
theorem Tiled.start (h : H.Tiled) {q : Nat} (hq : q < H.p) (hk : H.K q ≠ 0) : H.At q ∧ H.can q = true := by
  obtain ⟨a, h1, h2, h3, h4⟩ := h.1.cover q hq
  rcases Nat.eq_or_lt_of_le h3 with h5 | h5
  · subst h5; exact ⟨h1, h2⟩
  · exact absurd (H.K_zero q (h.2 a h1 h2 (by omega) q h5 h4)).1 hk
theorem Tiled.at_can (h : H.Tiled) {q : Nat} (ha : H.At q) (hq : q < H.p) : H.can q = true := (At.next ha h.1 hq).1
theorem Tiled.at_K (h : H.Tiled) {q : Nat} (ha : H.At q) (hq : q < H.p) : H.K q ≠ 0 := ((H.can_iff q).1 (h.at_can ha hq)).2.1
theorem Tiled.inside (h : H.Tiled) {a q : Nat} (ha : H.At a) (h0 : a < H.p) (h1 : a < q) (h2 : q < H.nx a) : H.K q = 0 := (H.K_zero q (h.2 a ha (h.at_can ha h0) h0 q h1 h2)).1
theorem Tiled.cover (h : H.Tiled) {q : Nat} (hq : q < H.p) : ∃ a, H.At a ∧ a < H.p ∧ H.K a ≠ 0 ∧ a ≤ q ∧ q < H.nx a := by
  obtain ⟨a, h1, h2, h3, h4⟩ := h.1.cover q hq
  exact ⟨a, h1, by omega, h.at_K h1 (by omega), h3, h4⟩
theorem Tiled.step {R : Nat → Prop} (h : H.Tiled) {a : Nat} (ha : H.At a) (h0 : a < H.p) (h1 : ∀ q, q < a → H.K q ≠ 0 → R q) (h2 : R a) : ∀ q, q < H.nx a → H.K q ≠ 0 → R q := by
  intro q hq hk
  rcases Nat.lt_trichotomy q a with h3 | h3 | h3
  · exact h1 q h3 hk
  · subst h3; exact h2
  · exact absurd (h.inside ha h0 h3 hq) hk
def sumTo (f : Nat → Nat) : Nat → Nat
  | 0 => 0
  | n + 1 => sumTo f n + f n
theorem sumTo_le (f : Nat → Nat) (m : Nat) : ∀ n, (∀ q, q < n → f q ≤ m) → sumTo f n ≤ n * m
  | 0, _ => by simp [sumTo]
  | n + 1, h => by
    have h1 := sumTo_le f m n (fun q hq => h q (by omega))
    have h2 := h n (by omega)
    show sumTo f n + f n ≤ (n + 1) * m
    rw [Nat.succ_mul]
    omega
def catTo {α : Type} (f : Nat → List α) : Nat → List α
  | 0 => []
  | n + 1 => catTo f n ++ f n
end AuH

theorem gA {α : Type} {xs : List α} {i : Nat} (h : i < xs.toArray.size) : xs.toArray[i] = xs[i]'(by simpa using h) := List.getElem_toArray h
theorem gB {α : Type} (a : α) (l : List α) (h : 0 < (a :: l).length) : (a :: l)[0]'h = a := List.getElem_cons_zero a l h
theorem gC {α : Type} (a : α) (l : List α) (i : Nat) (h : i + 1 < (a :: l).length) : (a :: l)[i + 1]'h = l[i]'(Nat.lt_of_succ_lt_succ h) := List.getElem_cons_succ a l i h
theorem sA {α : Type} (l : List α) (i : Nat) (a : α) : l.toArray.setIfInBounds i a = (l.set i a).toArray := List.setIfInBounds_toArray l i a
theorem sB {α : Type} {x : α} {xs : List α} {a : α} : (x :: xs).set 0 a = a :: xs := List.set_cons_zero
theorem sC {α : Type} {x : α} {xs : List α} {i : Nat} {a : α} : (x :: xs).set (i + 1) a = x :: xs.set i a := List.set_cons_succ
section
variable {P : Program} {ops : Array Oper} {Q : Exit → Act → World → Prop} {md : Region.Mode} {S : World → Prop} {i : Nat} {oi : Oper} {v : Value} {fuel : Nat} {listed : Array Bool} {a : Act} {w : World}
theorem tkO (hi : ops[i]? = some oi) (h3 : (Region.noSelect ops && Region.free md ops listed i && (Region.ready md ops listed).contains i) = true) (hQ : ∀ c a w, Q (.panic c) (a.put oi.dst v) w → Q (.panic c) a w)
    (hw : Region.wanted oi (yielded ops a.tmps) = true) (hy : ∀ w, S w → (execOp a.eval oi).run P w = .ok (.value v) w) (hS : S w) (h : wpAnyH P md ops Q S fuel (listed.setIfInBounds i true) (a.put oi.dst v) w) : wpAnyH P md ops Q S (fuel + 1) listed a w := by
  rw [Bool.and_eq_true, Bool.and_eq_true] at h3
  exact wpAnyH_take hi h3.1.1 h3.1.2 h3.2 hQ (Or.inl ⟨hw, hy⟩) hS h
theorem skO (hi : ops[i]? = some oi) (h3 : (Region.noSelect ops && Region.free md ops listed i && (Region.ready md ops listed).contains i) = true) (hQ : ∀ c a w, Q (.panic c) (a.put oi.dst undef) w → Q (.panic c) a w)
    (hw : Region.wanted oi (yielded ops a.tmps) = false) (hS : S w) (h : wpAnyH P md ops Q S fuel (listed.setIfInBounds i true) (a.put oi.dst undef) w) : wpAnyH P md ops Q S (fuel + 1) listed a w := by
  rw [Bool.and_eq_true, Bool.and_eq_true] at h3
  exact wpAnyH_take hi h3.1.1 h3.1.2 h3.2 hQ (Or.inr ⟨hw, rfl⟩) hS h
end
section
variable {P : Program} {ops : Array Oper} {Q : Exit → Act → World → Prop} {md : Region.Mode} {S : World → Prop} {fuel : Nat} {listed listed' : Array Bool} {a a' : Act} {w : World} {oi : Oper} {v : Value}
theorem tkz (i : Nat) (h : wpAnyH P md ops Q S fuel listed' a' w) (hi : ops[i]? = some oi := by rfl) (h3 : (Region.noSelect ops && Region.free md ops listed i && (Region.ready md ops listed).contains i) = true := by kernel_rfl) (hQ : ∀ c a w, Q (.panic c) (a.put oi.dst v) w → Q (.panic c) a w := by exact fun _ _ _ h => h)
    (hw : Region.wanted oi (yielded ops a.tmps) = true := by rfl) (hy : ∀ w, S w → (execOp a.eval oi).run P w = .ok (.value v) w := by intro w hSw; (try dsimp only at hSw); go_simp; (try with_reducible rfl)) (hS : S w := by assumption) (hl : listed.setIfInBounds i true = listed' := by (try simp only [sA, sB, sC]); rfl) (ha : a.put oi.dst v = a' := by (try simp only [Act.put, gA, gB, gC, sA, sB, sC]); rfl) : wpAnyH P md ops Q S (fuel + 1) listed a w := by
  subst hl ha
  exact tkO hi h3 hQ hw hy hS h
end
end
end Go.Proofs.YtioolaaphbddbaaGreatDoor

namespace Go.Proofs.YtioolaaphbddbaaGreatDoor
open Go.ChangeShapes Go.WideShapes Go.ChangeAt Go.RowKit Go.Maps
set_option linter.unusedVariables false
set_option linter.unusedSimpArgs false
set_option maxRecDepth 100000
section
theorem Held.drw {w : World} {g : Nat} {t : TypeId} {cs : Array Value} (h : Held w g t cs) : Held w.drew g t cs := h
section
variable {w : World} {g : Nat} {t : TypeId} {c0 c1 c2 c3 c4 c5 : Value}
theorem Held.six' (h : Held w g t #[c0, c1, c2, c3, c4, c5]) : w.cell? ⟨g, 0, none⟩ = some c0 ∧ w.cell? ⟨g, 1, none⟩ = some c1 ∧ w.cell? ⟨g, 2, none⟩ = some c2 ∧ w.cell? ⟨g, 3, none⟩ = some c3 ∧ w.cell? ⟨g, 4, none⟩ = some c4 ∧ w.cell? ⟨g, 5, none⟩ = some c5 := ⟨h.cell 0, h.cell 1, h.cell 2, h.cell 3, h.cell 4, h.cell 5⟩
end

theorem lkIs_c (b : Nat) (t q s hd p : Int) (w : World) :
    Calls Tryz.prog 147 #[.agg #[.pointer (some ⟨b, 0, none⟩), .int .i64 t, .int .i64 q, .int .i64 s, .int .i64 hd, .int .i64 p]] w fun e w' => e = .returned (.bool (pgB q p)) ∧ Below w.heap.size w w' := by
  have hB := Bnew (B0 w) (.cells #[.pointer (some ⟨b, 0, none⟩), .int .i64 t, .int .i64 q, .int .i64 s, .int .i64 hd, .int .i64 p] 165)
  obtain ⟨x0, x1, x2, x3, x4, x5⟩ := (Held.new w 165 #[.pointer (some ⟨b, 0, none⟩), .int .i64 t, .int .i64 q, .int .i64 s, .int .i64 hd, .int .i64 p]).six'
  unfold pgB
  by_cases h0 : 0 ≤ p
  · have t0 : decide ((0 : Int) ≤ p) = true := decide_eq_true h0
    obtain ⟨c, t1⟩ : ∃ c, decide (p < q) = c := ⟨_, rfl⟩
    rw [t0, t1]
    cases c with
    | true =>
      go_enter Tryz.func147, Tryz.ntmps147
      go_wp2
      go_ret
      exact ⟨rfl, hB⟩
    | false =>
      go_enter Tryz.func147, Tryz.ntmps147
      go_wp2
      go_ret
      exact ⟨rfl, hB⟩
  · have t0 : decide ((0 : Int) ≤ p) = false := decide_eq_false h0
    rw [t0]
    go_enter Tryz.func147, Tryz.ntmps147
    go_wp2
    go_ret
    exact ⟨rfl, hB⟩

theorem lkLink_c (b : Nat) (t q s hd : Int) (k : Nat) (hk : k < 2 ^ 31) (w : World) :
    Calls Tryz.prog 152 #[.agg #[.pointer (some ⟨b, 0, none⟩), .int .i64 t, .int .i64 q, .int .i64 s, .int .i64 hd, .int .i64 (k : Int)]] w fun e w' => e = .returned (.int .u32 ((k + 1 : Nat) : Int)) ∧ Below w.heap.size w w' := by
  have hB := Bnew (B0 w) (.cells #[.pointer (some ⟨b, 0, none⟩), .int .i64 t, .int .i64 q, .int .i64 s, .int .i64 hd, .int .i64 (k : Int)] 165)
  go_enter Tryz.func152, Tryz.ntmps152
  go_wp2
  go_ret
  exact ⟨by simp, hB⟩

set_option maxHeartbeats 1600000 in
theorem lkTo_c (b : Nat) (t q s hd : Int) (l : Nat) (hl : l < 2 ^ 32) (w : World) :
    Calls Tryz.prog 151 #[.agg #[.pointer (some ⟨b, 0, none⟩), .int .i64 t, .int .i64 q, .int .i64 s, .int .i64 hd], .int .u32 (l : Int)] w fun e w' => e = .returned (.agg #[.pointer (some ⟨b, 0, none⟩), .int .i64 t, .int .i64 q, .int .i64 s, .int .i64 hd, .int .i64 ((l : Int) - 1)]) ∧ Below w.heap.size w w' := by
  go_enter Tryz.func151, Tryz.ntmps151
  go_wp2
  have hfin := Held.new2 w (.cells #[.pointer (some ⟨b, 0, none⟩), .int .i64 t, .int .i64 q, .int .i64 s, .int .i64 hd] 163) 165 #[.pointer (some ⟨b, 0, none⟩), .int .i64 t, .int .i64 q, .int .i64 s, .int .i64 hd, .int .i64 ((l : Int) - 1)]
  obtain ⟨r0, r1, r2, r3, r4, r5⟩ := hfin.six'
  refine bodyPost_ret (v := .agg #[.pointer (some ⟨b, 0, none⟩), .int .i64 t, .int .i64 q, .int .i64 s, .int .i64 hd, .int .i64 ((l : Int) - 1)]) (by simp [results, Tryz.results151, go_sem, r0, r1, r2, r3, r4, r5]) rfl ⟨rfl, ?_⟩
  exact Bnew (Bnew (B0 _) _) _

section
variable {base b n : Nat} {wh : Bool} {K : Nat → Option Nat} {st : Vst} {w w0 : World} {A G : Nat → Prop} {t q s hd p : Int}

theorem lkFirst_c (hn : n < 2 ^ 40) (h : (vOb base b n wh K).At w0 A G st w) :
    Calls Tryz.prog 148 #[.agg #[.pointer (some ⟨b, 0, none⟩), .int .i64 t, .int .i64 q, .int .i64 s, .int .i64 hd]] w fun e w' => e = .returned (.int .u32 ((getV n K st hd : Nat) : Int)) ∧ (vOb base b n wh K).At w0 A G (getS n K st hd) w' ∧ Stay G w w' := by
  have HA := hidp (h.alloc (.cells #[.pointer (some ⟨b, 0, none⟩), .int .i64 t, .int .i64 q, .int .i64 s, .int .i64 hd] 163))
  have hS : Stay G w (w.alloc (.cells #[.pointer (some ⟨b, 0, none⟩), .int .i64 t, .int .i64 q, .int .i64 s, .int .i64 hd] 163)) := Stay.of_below (Bnew (B0 w) _) G
  clear h
  go_enter Tryz.func148, Tryz.ntmps148
  go_wp2_with fail
  refine (vGetA hn hd HA.out).mono ?_
  rintro e w1 ⟨rfl, h1, h2⟩
  go_wp2
  go_ret
  exact ⟨rfl, h1, hS.trans h2⟩

theorem lkSetFirst_c (hn : n < 2 ^ 40) (l : Nat) (hl : l < 2 ^ 32) (h : (vOb base b n wh K).At w0 A G st w) :
    Calls Tryz.prog 153 #[.agg #[.pointer (some ⟨b, 0, none⟩), .int .i64 t, .int .i64 q, .int .i64 s, .int .i64 hd], .int .u32 (l : Int)] w fun e w' => e = .returned (.tuple #[]) ∧ (vOb base b n wh K).At w0 A G (putS n st hd l) w' ∧ Stay G w w' := by
  have HA := hidp (h.alloc (.cells #[.pointer (some ⟨b, 0, none⟩), .int .i64 t, .int .i64 q, .int .i64 s, .int .i64 hd] 163))
  have hS : Stay G w (w.alloc (.cells #[.pointer (some ⟨b, 0, none⟩), .int .i64 t, .int .i64 q, .int .i64 s, .int .i64 hd] 163)) := Stay.of_below (Bnew (B0 w) _) G
  clear h
  go_enter Tryz.func153, Tryz.ntmps153
  go_wp2_with fail
  refine (vPutA hn hd l hl HA.out).mono ?_
  rintro e w1 ⟨rfl, h1, h2⟩
  go_wp2
  go_end0
  exact ⟨rfl, h1, hS.trans h2⟩

set_option maxHeartbeats 1600000 in
theorem lkNext_c (hn : n < 2 ^ 40) (h : (vOb base b n wh K).At w0 A G st w) :
    Calls Tryz.prog 154 #[.agg #[.pointer (some ⟨b, 0, none⟩), .int .i64 t, .int .i64 q, .int .i64 s, .int .i64 hd, .int .i64 p]] w fun e w' => e = .returned (.int .u32 ((getV n K st (pageI t q s p 2) : Nat) : Int)) ∧ (vOb base b n wh K).At w0 A G (getS n K st (pageI t q s p 2)) w' ∧ Stay G w w' := by
  have HA := hidp (h.box (.cells #[.pointer (some ⟨b, 0, none⟩), .int .i64 t, .int .i64 q, .int .i64 s, .int .i64 hd, .int .i64 p] 165))
  have HC := hidp (Held.new w 165 #[.pointer (some ⟨b, 0, none⟩), .int .i64 t, .int .i64 q, .int .i64 s, .int .i64 hd, .int .i64 p])
  have HS := hidp (Stay.of_below (Bnew (B0 w) (.cells #[.pointer (some ⟨b, 0, none⟩), .int .i64 t, .int .i64 q, .int .i64 s, .int .i64 hd, .int .i64 p] 165)) G)
  clear h
  go_enter Tryz.func154, Tryz.ntmps154
  go_wp2_with fail
  refine wp_region_held_drew (S := (fun w' => w'.cell? ⟨w.heap.size, 0, none⟩ = some (.pointer (some ⟨b, 0, none⟩)) ∧ w'.cell? ⟨w.heap.size, 1, none⟩ = some (.int .i64 t) ∧ w'.cell? ⟨w.heap.size, 2, none⟩ = some (.int .i64 q) ∧ w'.cell? ⟨w.heap.size, 3, none⟩ = some (.int .i64 s) ∧ w'.cell? ⟨w.heap.size, 4, none⟩ = some (.int .i64 hd) ∧ w'.cell? ⟨w.heap.size, 5, none⟩ = some (.int .i64 p))) (by kernel_rfl) ?_ (fun hHeld => ?_)
  · (try dsimp only)
    first | exact HC.out.drw.six' | exact HC1.out.six' | exact HC2.out.six' | exact hHeld
  refine tkz 0 ?_
  refine tkz 1 ?_
  refine tkz 2 ?_
  refine tkz 3 ?_
  refine tkz 4 ?_
  refine tkz 5 ?_
  refine tkz 6 ?_
  refine tkz 7 ?_
  refine wpAnyH_ready (rs := [8]) (by kernel_rfl) (by simp) ?_
  refine AllReadyH.cons (o := _) rfl (fun K hK => ?_) AllReadyH.nil
  go_simp
  refine (plNext_c _ _ _ _ _).mono ?_; rintro e w1 ⟨rfl, hb1⟩; have HA1 := hidp (HA.out.drew.keep hb1); have HC1 := hidp (HC.out.drw.keep hb1); have HS1 := hidp ((HS.out.trans (Stay.of_below (Bdrew (B0 _)) _)).trans (Stay.of_below hb1 _)); clear HA HC HS hb1
  refine hK.out _ _ ?_ (fun hHeld => ?_)
  · (try dsimp only)
    first | exact HC.out.drw.six' | exact HC1.out.six' | exact HC2.out.six' | exact hHeld
  clear hK K
  (try simp only [Act.put, gA, gB, gC, sA, sB, sC])
  refine wpAnyH_ready (rs := [9]) (by kernel_rfl) (by simp) ?_
  refine AllReadyH.cons (o := _) rfl (fun K hK => ?_) AllReadyH.nil
  go_simp
  refine (vGetA hn _ HA1.out).mono ?_; rintro e w2 ⟨rfl, h1, h2⟩; have HA2 := hidp (h1.less fun g x => Or.inl x); have HC2 := hidp (h2.held (Or.inr rfl) HC1.out); have HS2 := hidp (HS1.out.trans (h2.less fun g x => Or.inl x)); clear HA1 HC1 HS1 h1 h2
  refine hK.out _ _ ?_ (fun hHeld => ?_)
  · (try dsimp only)
    first | exact HC.out.drw.six' | exact HC1.out.six' | exact HC2.out.six' | exact hHeld
  clear hK K
  (try simp only [Act.put, gA, gB, gC, sA, sB, sC])
  refine tkz 10 ?_
  refine wpAnyH_done (by kernel_rfl) ?_ _
  go_wp2
  go_ret
  exact ⟨rfl, HA2.out, HS2.out⟩

set_option maxHeartbeats 1600000 in
theorem lkSetNext_c (hn : n < 2 ^ 40) (l : Nat) (hl : l < 2 ^ 32) (h : (vOb base b n wh K).At w0 A G st w) :
    Calls Tryz.prog 149 #[.agg #[.pointer (some ⟨b, 0, none⟩), .int .i64 t, .int .i64 q, .int .i64 s, .int .i64 hd, .int .i64 p], .int .u32 (l : Int)] w fun e w' => e = .returned (.tuple #[]) ∧ (vOb base b n wh K).At w0 A G (putS n st (pageI t q s p 2) l) w' ∧ Stay G w w' := by
  have HA := hidp (h.box (.cells #[.pointer (some ⟨b, 0, none⟩), .int .i64 t, .int .i64 q, .int .i64 s, .int .i64 hd, .int .i64 p] 165))
  have HC := hidp (Held.new w 165 #[.pointer (some ⟨b, 0, none⟩), .int .i64 t, .int .i64 q, .int .i64 s, .int .i64 hd, .int .i64 p])
  have HS := hidp (Stay.of_below (Bnew (B0 w) (.cells #[.pointer (some ⟨b, 0, none⟩), .int .i64 t, .int .i64 q, .int .i64 s, .int .i64 hd, .int .i64 p] 165)) G)
  clear h
  go_enter Tryz.func149, Tryz.ntmps149
  go_wp2_with fail
  refine wp_region_held_drew (S := (fun w' => w'.cell? ⟨w.heap.size, 0, none⟩ = some (.pointer (some ⟨b, 0, none⟩)) ∧ w'.cell? ⟨w.heap.size, 1, none⟩ = some (.int .i64 t) ∧ w'.cell? ⟨w.heap.size, 2, none⟩ = some (.int .i64 q) ∧ w'.cell? ⟨w.heap.size, 3, none⟩ = some (.int .i64 s) ∧ w'.cell? ⟨w.heap.size, 4, none⟩ = some (.int .i64 hd) ∧ w'.cell? ⟨w.heap.size, 5, none⟩ = some (.int .i64 p))) (by kernel_rfl) ?_ (fun hHeld => ?_)
  · (try dsimp only)
    first | exact HC.out.drw.six' | exact HC1.out.six' | exact HC2.out.six' | exact hHeld
  refine tkz 0 ?_
  refine tkz 1 ?_
  refine tkz 2 ?_
  refine tkz 3 ?_
  refine tkz 4 ?_
  refine tkz 5 ?_
  refine tkz 6 ?_
  refine tkz 7 ?_
  refine tkz 9 ?_
  refine wpAnyH_ready (rs := [8]) (by kernel_rfl) (by simp) ?_
  refine AllReadyH.cons (o := _) rfl (fun K hK => ?_) AllReadyH.nil
  go_simp
  refine (plNext_c _ _ _ _ _).mono ?_; rintro e w1 ⟨rfl, hb1⟩; have HA1 := hidp (HA.out.drew.keep hb1); have HC1 := hidp (HC.out.drw.keep hb1); have HS1 := hidp ((HS.out.trans (Stay.of_below (Bdrew (B0 _)) _)).trans (Stay.of_below hb1 _)); clear HA HC HS hb1
  refine hK.out _ _ ?_ (fun hHeld => ?_)
  · (try dsimp only)
    first | exact HC.out.drw.six' | exact HC1.out.six' | exact HC2.out.six' | exact hHeld
  clear hK K
  (try simp only [Act.put, gA, gB, gC, sA, sB, sC])
  refine wpAnyH_ready (rs := [10]) (by kernel_rfl) (by simp) ?_
  refine AllReadyH.cons (o := _) rfl (fun K hK => ?_) AllReadyH.nil
  go_simp
  refine (vPutA hn _ l hl HA1.out).mono ?_; rintro e w2 ⟨rfl, h1, h2⟩; have HA2 := hidp (h1.less fun g x => Or.inl x); have HC2 := hidp (h2.held (Or.inr rfl) HC1.out); have HS2 := hidp (HS1.out.trans (h2.less fun g x => Or.inl x)); clear HA1 HC1 HS1 h1 h2
  refine hK.out _ _ ?_ (fun hHeld => ?_)
  · (try dsimp only)
    first | exact HC.out.drw.six' | exact HC1.out.six' | exact HC2.out.six' | exact hHeld
  clear hK K
  (try simp only [Act.put, gA, gB, gC, sA, sB, sC])
  refine wpAnyH_done (by kernel_rfl) ?_ _
  go_wp2
  go_end0
  exact ⟨rfl, HA2.out, HS2.out⟩

set_option maxHeartbeats 1600000 in
theorem lkPrev_c (hn : n < 2 ^ 40) (h : (vOb base b n wh K).At w0 A G st w) :
    Calls Tryz.prog 155 #[.agg #[.pointer (some ⟨b, 0, none⟩), .int .i64 t, .int .i64 q, .int .i64 s, .int .i64 hd, .int .i64 p]] w fun e w' => e = .returned (.int .u32 ((getV n K st (pageI t q s p 3) : Nat) : Int)) ∧ (vOb base b n wh K).At w0 A G (getS n K st (pageI t q s p 3)) w' ∧ Stay G w w' := by
  have HA := hidp (h.box (.cells #[.pointer (some ⟨b, 0, none⟩), .int .i64 t, .int .i64 q, .int .i64 s, .int .i64 hd, .int .i64 p] 165))
  have HC := hidp (Held.new w 165 #[.pointer (some ⟨b, 0, none⟩), .int .i64 t, .int .i64 q, .int .i64 s, .int .i64 hd, .int .i64 p])
  have HS := hidp (Stay.of_below (Bnew (B0 w) (.cells #[.pointer (some ⟨b, 0, none⟩), .int .i64 t, .int .i64 q, .int .i64 s, .int .i64 hd, .int .i64 p] 165)) G)
  clear h
  go_enter Tryz.func155, Tryz.ntmps155
  go_wp2_with fail
  refine wp_region_held_drew (S := (fun w' => w'.cell? ⟨w.heap.size, 0, none⟩ = some (.pointer (some ⟨b, 0, none⟩)) ∧ w'.cell? ⟨w.heap.size, 1, none⟩ = some (.int .i64 t) ∧ w'.cell? ⟨w.heap.size, 2, none⟩ = some (.int .i64 q) ∧ w'.cell? ⟨w.heap.size, 3, none⟩ = some (.int .i64 s) ∧ w'.cell? ⟨w.heap.size, 4, none⟩ = some (.int .i64 hd) ∧ w'.cell? ⟨w.heap.size, 5, none⟩ = some (.int .i64 p))) (by kernel_rfl) ?_ (fun hHeld => ?_)
  · (try dsimp only)
    first | exact HC.out.drw.six' | exact HC1.out.six' | exact HC2.out.six' | exact hHeld
  refine tkz 0 ?_
  refine tkz 1 ?_
  refine tkz 2 ?_
  refine tkz 3 ?_
  refine tkz 4 ?_
  refine tkz 5 ?_
  refine tkz 6 ?_
  refine tkz 7 ?_
  refine wpAnyH_ready (rs := [8]) (by kernel_rfl) (by simp) ?_
  refine AllReadyH.cons (o := _) rfl (fun K hK => ?_) AllReadyH.nil
  go_simp
  refine (plPrev_c _ _ _ _ _).mono ?_; rintro e w1 ⟨rfl, hb1⟩; have HA1 := hidp (HA.out.drew.keep hb1); have HC1 := hidp (HC.out.drw.keep hb1); have HS1 := hidp ((HS.out.trans (Stay.of_below (Bdrew (B0 _)) _)).trans (Stay.of_below hb1 _)); clear HA HC HS hb1
  refine hK.out _ _ ?_ (fun hHeld => ?_)
  · (try dsimp only)
    first | exact HC.out.drw.six' | exact HC1.out.six' | exact HC2.out.six' | exact hHeld
  clear hK K
  (try simp only [Act.put, gA, gB, gC, sA, sB, sC])
  refine wpAnyH_ready (rs := [9]) (by kernel_rfl) (by simp) ?_
  refine AllReadyH.cons (o := _) rfl (fun K hK => ?_) AllReadyH.nil
  go_simp
  refine (vGetA hn _ HA1.out).mono ?_; rintro e w2 ⟨rfl, h1, h2⟩; have HA2 := hidp (h1.less fun g x => Or.inl x); have HC2 := hidp (h2.held (Or.inr rfl) HC1.out); have HS2 := hidp (HS1.out.trans (h2.less fun g x => Or.inl x)); clear HA1 HC1 HS1 h1 h2
  refine hK.out _ _ ?_ (fun hHeld => ?_)
  · (try dsimp only)
    first | exact HC.out.drw.six' | exact HC1.out.six' | exact HC2.out.six' | exact hHeld
  clear hK K
  (try simp only [Act.put, gA, gB, gC, sA, sB, sC])
  refine tkz 10 ?_
  refine wpAnyH_done (by kernel_rfl) ?_ _
  go_wp2
  go_ret
  exact ⟨rfl, HA2.out, HS2.out⟩

set_option maxHeartbeats 1600000 in
theorem lkSetPrev_c (hn : n < 2 ^ 40) (l : Nat) (hl : l < 2 ^ 32) (h : (vOb base b n wh K).At w0 A G st w) :
    Calls Tryz.prog 150 #[.agg #[.pointer (some ⟨b, 0, none⟩), .int .i64 t, .int .i64 q, .int .i64 s, .int .i64 hd, .int .i64 p], .int .u32 (l : Int)] w fun e w' => e = .returned (.tuple #[]) ∧ (vOb base b n wh K).At w0 A G (putS n st (pageI t q s p 3) l) w' ∧ Stay G w w' := by
  have HA := hidp (h.box (.cells #[.pointer (some ⟨b, 0, none⟩), .int .i64 t, .int .i64 q, .int .i64 s, .int .i64 hd, .int .i64 p] 165))
  have HC := hidp (Held.new w 165 #[.pointer (some ⟨b, 0, none⟩), .int .i64 t, .int .i64 q, .int .i64 s, .int .i64 hd, .int .i64 p])
  have HS := hidp (Stay.of_below (Bnew (B0 w) (.cells #[.pointer (some ⟨b, 0, none⟩), .int .i64 t, .int .i64 q, .int .i64 s, .int .i64 hd, .int .i64 p] 165)) G)
  clear h
  go_enter Tryz.func150, Tryz.ntmps150
  go_wp2_with fail
  refine wp_region_held_drew (S := (fun w' => w'.cell? ⟨w.heap.size, 0, none⟩ = some (.pointer (some ⟨b, 0, none⟩)) ∧ w'.cell? ⟨w.heap.size, 1, none⟩ = some (.int .i64 t) ∧ w'.cell? ⟨w.heap.size, 2, none⟩ = some (.int .i64 q) ∧ w'.cell? ⟨w.heap.size, 3, none⟩ = some (.int .i64 s) ∧ w'.cell? ⟨w.heap.size, 4, none⟩ = some (.int .i64 hd) ∧ w'.cell? ⟨w.heap.size, 5, none⟩ = some (.int .i64 p))) (by kernel_rfl) ?_ (fun hHeld => ?_)
  · (try dsimp only)
    first | exact HC.out.drw.six' | exact HC1.out.six' | exact HC2.out.six' | exact hHeld
  refine tkz 0 ?_
  refine tkz 1 ?_
  refine tkz 2 ?_
  refine tkz 3 ?_
  refine tkz 4 ?_
  refine tkz 5 ?_
  refine tkz 6 ?_
  refine tkz 7 ?_
  refine tkz 9 ?_
  refine wpAnyH_ready (rs := [8]) (by kernel_rfl) (by simp) ?_
  refine AllReadyH.cons (o := _) rfl (fun K hK => ?_) AllReadyH.nil
  go_simp
  refine (plPrev_c _ _ _ _ _).mono ?_; rintro e w1 ⟨rfl, hb1⟩; have HA1 := hidp (HA.out.drew.keep hb1); have HC1 := hidp (HC.out.drw.keep hb1); have HS1 := hidp ((HS.out.trans (Stay.of_below (Bdrew (B0 _)) _)).trans (Stay.of_below hb1 _)); clear HA HC HS hb1
  refine hK.out _ _ ?_ (fun hHeld => ?_)
  · (try dsimp only)
    first | exact HC.out.drw.six' | exact HC1.out.six' | exact HC2.out.six' | exact hHeld
  clear hK K
  (try simp only [Act.put, gA, gB, gC, sA, sB, sC])
  refine wpAnyH_ready (rs := [10]) (by kernel_rfl) (by simp) ?_
  refine AllReadyH.cons (o := _) rfl (fun K hK => ?_) AllReadyH.nil
  go_simp
  refine (vPutA hn _ l hl HA1.out).mono ?_; rintro e w2 ⟨rfl, h1, h2⟩; have HA2 := hidp (h1.less fun g x => Or.inl x); have HC2 := hidp (h2.held (Or.inr rfl) HC1.out); have HS2 := hidp (HS1.out.trans (h2.less fun g x => Or.inl x)); clear HA1 HC1 HS1 h1 h2
  refine hK.out _ _ ?_ (fun hHeld => ?_)
  · (try dsimp only)
    first | exact HC.out.drw.six' | exact HC1.out.six' | exact HC2.out.six' | exact hHeld
  clear hK K
  (try simp only [Act.put, gA, gB, gC, sA, sB, sC])
  refine wpAnyH_done (by kernel_rfl) ?_ _
  go_wp2
  go_end0
  exact ⟨rfl, HA2.out, HS2.out⟩

end
end
section
section
variable {base b n : Nat} {wh : Bool} {K : Nat → Option Nat} {st : Vst} {w w0 : World} {A G : Nat → Prop} {t q s hd : Int}

theorem lkPush_no (hn : n < 2 ^ 40) (p : Int) (hp : pgB q p = false) (h : (vOb base b n wh K).At w0 A G st w) :
    Calls Tryz.prog 124 #[.pointer (some ⟨b, 0, none⟩), .agg #[.int .i64 t, .int .i64 q, .int .i64 s], .int .i64 hd, .int .i64 p] w fun e w' => e = .returned (.tuple #[]) ∧ (vOb base b n wh K).At w0 A G (st) w' ∧ Stay G w w' := by
  have W0 := hidp (WK.two h (.cells #[.int .i64 t, .int .i64 q, .int .i64 s] 23) 165 #[.pointer (some ⟨b, 0, none⟩), .int .i64 t, .int .i64 q, .int .i64 s, .int .i64 hd, .int .i64 p])
  obtain ⟨x0, x1, x2, x3, x4, x5⟩ := W0.out.held.six'
  have HK := hidp hp
  clear h hp
  go_enter Tryz.func124, Tryz.ntmps124
  go_wp2_with fail
  refine (lkIs_c b t q s hd p _).mono ?_; rintro e w1 ⟨rfl, hb⟩; rw [HK.out]; have W1 := hidp (W0.out.keep hb); clear hb W0
  go_wp2
  (try simp only [Exit.inBlock, Exit.then])
  refine bodyPost_ret (results_none rfl _ _ _) rfl ?_
  exact ⟨rfl, W1.out.fin⟩

set_option maxHeartbeats 3200000 in
theorem lkPush_yes (hn : n < 2 ^ 40) (k : Nat) (hk : pgB q (k : Int) = true) (hk31 : k < 2 ^ 31) (h : (vOb base b n wh K).At w0 A G st w) :
    Calls Tryz.prog 124 #[.pointer (some ⟨b, 0, none⟩), .agg #[.int .i64 t, .int .i64 q, .int .i64 s], .int .i64 hd, .int .i64 (k : Int)] w fun e w' => e = .returned (.tuple #[]) ∧ (vOb base b n wh K).At w0 A G (pushS n K t q s hd k st) w' ∧ Stay G w w' := by
  have W0 := hidp (WK.two h (.cells #[.int .i64 t, .int .i64 q, .int .i64 s] 23) 165 #[.pointer (some ⟨b, 0, none⟩), .int .i64 t, .int .i64 q, .int .i64 s, .int .i64 hd, .int .i64 (k : Int)])
  obtain ⟨x0, x1, x2, x3, x4, x5⟩ := W0.out.held.six'
  have HK := hidp hk
  obtain ⟨l, hl⟩ : ∃ l, getV n K st hd = l := ⟨_, rfl⟩
  have hl32 : l < 2 ^ 32 := by rw [← hl]; exact vAt_lt h hd
  have HL := hidp hl
  have HQ : Hid (push1 n K t q s hd k st = putS n (putS n (getS n K st hd) (pageI t q s (k : Int) 2) l) (pageI t q s (k : Int) 3) 0) := hidp (by unfold push1; rw [hl])
  have HP : Hid (l = 0 → pushS n K t q s hd k st = putS n (push1 n K t q s hd k st) hd (k + 1)) := hidp (fun e => by unfold pushS push2; rw [if_pos (hl.trans e)])
  have HR : Hid (l ≠ 0 → pushS n K t q s hd k st = putS n (putS n (push1 n K t q s hd k st) (pageI t q s ((l : Int) - 1) 3) (k + 1)) hd (k + 1)) := hidp (fun e => by unfold pushS push2; rw [if_neg (by rw [hl]; exact e), hl])
  clear hl
  clear h hk
  go_enter Tryz.func124, Tryz.ntmps124
  go_wp2_with fail
  refine (lkIs_c b t q s hd k _).mono ?_; rintro e w1 ⟨rfl, hb⟩; have W1 := hidp (W0.out.keep hb); clear hb W0; rw [HK.out]
  obtain ⟨x0, x1, x2, x3, x4, x5⟩ := W1.out.held.six'
  go_wp2_with fail
  refine (lkFirst_c hn W1.out.at_).mono ?_; rintro e w2 ⟨rfl, h1, h2⟩; have W2 := hidp (W1.out.call h1 h2); clear h1 h2 W1; rw [HL.out]
  obtain ⟨x0, x1, x2, x3, x4, x5⟩ := W2.out.held.six'
  go_wp2_with fail
  refine (lkSetNext_c hn l hl32 W2.out.at_).mono ?_; rintro e w3 ⟨rfl, h1, h2⟩; have W3 := hidp (W2.out.call h1 h2); clear h1 h2 W2
  obtain ⟨x0, x1, x2, x3, x4, x5⟩ := W3.out.held.six'
  go_wp2_with fail
  refine (lkSetPrev_c hn 0 (by omega) W3.out.at_).mono ?_; rintro e w4 ⟨rfl, h1, h2⟩; have W4 := hidp (W3.out.call h1 h2); clear h1 h2 W3
  obtain ⟨x0, x1, x2, x3, x4, x5⟩ := W4.out.held.six'
  rw [← HQ.out] at W4
  clear HL HQ HK
  by_cases hz : l = 0
  · have HE := hidp (HP.out hz)
    subst hz
    clear HP HR
    go_wp2_with fail
    refine wp_region_held_drew (S := (fun w' => w'.cell? ⟨w.heap.size + 1, 0, none⟩ = some (.pointer (some ⟨b, 0, none⟩)) ∧ w'.cell? ⟨w.heap.size + 1, 1, none⟩ = some (.int .i64 t) ∧ w'.cell? ⟨w.heap.size + 1, 2, none⟩ = some (.int .i64 q) ∧ w'.cell? ⟨w.heap.size + 1, 3, none⟩ = some (.int .i64 s) ∧ w'.cell? ⟨w.heap.size + 1, 4, none⟩ = some (.int .i64 hd) ∧ w'.cell? ⟨w.heap.size + 1, 5, none⟩ = some (.int .i64 (k : Int)))) (by kernel_rfl) ?_ (fun hHeld => ?_)
    · (try dsimp only)
      first | exact W4.out.drew.held.six' | exact W5.out.held.six' | exact W6.out.held.six' | exact hHeld
    refine tkz 0 ?_
    refine tkz 1 ?_
    refine tkz 2 ?_
    refine wpAnyH_ready (rs := [3]) (by kernel_rfl) (by simp) ?_
    refine AllReadyH.cons (o := _) rfl (fun K hK => ?_) AllReadyH.nil
    go_simp
    refine (lkLink_c b t q s hd k hk31 _).mono ?_; rintro e w5 ⟨rfl, hb⟩; have W5 := hidp (W4.out.drew.keep hb); clear hb W4
    refine hK.out _ _ ?_ (fun hHeld => ?_)
    · (try dsimp only)
      first | exact W4.out.drew.held.six' | exact W5.out.held.six' | exact W6.out.held.six' | exact hHeld
    clear hK K
    (try simp only [Act.put, gA, gB, gC, sA, sB, sC])
    refine wpAnyH_ready (rs := [4]) (by kernel_rfl) (by simp) ?_
    refine AllReadyH.cons (o := _) rfl (fun K hK => ?_) AllReadyH.nil
    go_simp
    refine (lkSetFirst_c hn (k + 1) (by omega) W5.out.at_).mono ?_; rintro e w6 ⟨rfl, h1, h2⟩; have W6 := hidp (W5.out.call h1 h2); clear h1 h2 W5
    refine hK.out _ _ ?_ (fun hHeld => ?_)
    · (try dsimp only)
      first | exact W4.out.drew.held.six' | exact W5.out.held.six' | exact W6.out.held.six' | exact hHeld
    clear hK K
    (try simp only [Act.put, gA, gB, gC, sA, sB, sC])
    refine wpAnyH_done (by kernel_rfl) ?_ _
    obtain ⟨x0, x1, x2, x3, x4, x5⟩ := W6.out.held.six'
    go_wp2
    go_end0
    exact ⟨rfl, by rw [HE.out]; exact W6.out.fin⟩
  · have HE := hidp (HR.out hz)
    have t1 : ((l : Int) == 0) = false := by simp; omega
    have t2 : ((l : Int) != 0) = true := by simp; omega
    clear HP HR
    go_wp2_with fail
    refine wp_region_held_drew (S := (fun w' => w'.cell? ⟨w.heap.size + 1, 0, none⟩ = some (.pointer (some ⟨b, 0, none⟩)) ∧ w'.cell? ⟨w.heap.size + 1, 1, none⟩ = some (.int .i64 t) ∧ w'.cell? ⟨w.heap.size + 1, 2, none⟩ = some (.int .i64 q) ∧ w'.cell? ⟨w.heap.size + 1, 3, none⟩ = some (.int .i64 s) ∧ w'.cell? ⟨w.heap.size + 1, 4, none⟩ = some (.int .i64 hd) ∧ w'.cell? ⟨w.heap.size + 1, 5, none⟩ = some (.int .i64 (k : Int)))) (by kernel_rfl) ?_ (fun hHeld => ?_)
    · (try dsimp only)
      first | exact W4.out.drew.held.six' | exact W5.out.held.six' | exact W6.out.held.six' | exact W7.out.held.six' | exact hHeld
    refine tkz 0 ?_
    refine tkz 1 ?_
    refine tkz 2 ?_
    refine tkz 4 ?_
    refine wpAnyH_ready (rs := [3]) (by kernel_rfl) (by simp) ?_
    refine AllReadyH.cons (o := _) rfl (fun K hK => ?_) AllReadyH.nil
    go_simp
    refine (lkTo_c b t q s hd l hl32 _).mono ?_; rintro e w5 ⟨rfl, hb⟩; have W5 := hidp (W4.out.drew.keep hb); clear hb W4
    refine hK.out _ _ ?_ (fun hHeld => ?_)
    · (try dsimp only)
      first | exact W4.out.drew.held.six' | exact W5.out.held.six' | exact W6.out.held.six' | exact W7.out.held.six' | exact hHeld
    clear hK K
    (try simp only [Act.put, gA, gB, gC, sA, sB, sC])
    refine wpAnyH_ready (rs := [5]) (by kernel_rfl) (by simp) ?_
    refine AllReadyH.cons (o := _) rfl (fun K hK => ?_) AllReadyH.nil
    go_simp
    refine (lkLink_c b t q s hd k hk31 _).mono ?_; rintro e w6 ⟨rfl, hb⟩; have W6 := hidp (W5.out.keep hb); clear hb W5
    refine hK.out _ _ ?_ (fun hHeld => ?_)
    · (try dsimp only)
      first | exact W4.out.drew.held.six' | exact W5.out.held.six' | exact W6.out.held.six' | exact W7.out.held.six' | exact hHeld
    clear hK K
    (try simp only [Act.put, gA, gB, gC, sA, sB, sC])
    refine wpAnyH_ready (rs := [6]) (by kernel_rfl) (by simp) ?_
    refine AllReadyH.cons (o := _) rfl (fun K hK => ?_) AllReadyH.nil
    go_simp
    refine (lkSetPrev_c hn (k + 1) (by omega) W6.out.at_).mono ?_; rintro e w7 ⟨rfl, h1, h2⟩; have W7 := hidp (W6.out.call h1 h2); clear h1 h2 W6
    refine hK.out _ _ ?_ (fun hHeld => ?_)
    · (try dsimp only)
      first | exact W4.out.drew.held.six' | exact W5.out.held.six' | exact W6.out.held.six' | exact W7.out.held.six' | exact hHeld
    clear hK K
    (try simp only [Act.put, gA, gB, gC, sA, sB, sC])
    refine wpAnyH_done (by kernel_rfl) ?_ _
    obtain ⟨x0, x1, x2, x3, x4, x5⟩ := W7.out.held.six'
    go_wp2_with fail
    refine wp_region_held_drew (S := (fun w' => w'.cell? ⟨w.heap.size + 1, 0, none⟩ = some (.pointer (some ⟨b, 0, none⟩)) ∧ w'.cell? ⟨w.heap.size + 1, 1, none⟩ = some (.int .i64 t) ∧ w'.cell? ⟨w.heap.size + 1, 2, none⟩ = some (.int .i64 q) ∧ w'.cell? ⟨w.heap.size + 1, 3, none⟩ = some (.int .i64 s) ∧ w'.cell? ⟨w.heap.size + 1, 4, none⟩ = some (.int .i64 hd) ∧ w'.cell? ⟨w.heap.size + 1, 5, none⟩ = some (.int .i64 (k : Int)))) (by kernel_rfl) ?_ (fun hHeld => ?_)
    · (try dsimp only)
      first | exact W7.out.drew.held.six' | exact W8.out.held.six' | exact W9.out.held.six' | exact hHeld
    refine tkz 0 ?_
    refine tkz 1 ?_
    refine tkz 2 ?_
    refine wpAnyH_ready (rs := [3]) (by kernel_rfl) (by simp) ?_
    refine AllReadyH.cons (o := _) rfl (fun K hK => ?_) AllReadyH.nil
    go_simp
    refine (lkLink_c b t q s hd k hk31 _).mono ?_; rintro e w8 ⟨rfl, hb⟩; have W8 := hidp (W7.out.drew.keep hb); clear hb W7
    refine hK.out _ _ ?_ (fun hHeld => ?_)
    · (try dsimp only)
      first | exact W7.out.drew.held.six' | exact W8.out.held.six' | exact W9.out.held.six' | exact hHeld
    clear hK K
    (try simp only [Act.put, gA, gB, gC, sA, sB, sC])
    refine wpAnyH_ready (rs := [4]) (by kernel_rfl) (by simp) ?_
    refine AllReadyH.cons (o := _) rfl (fun K hK => ?_) AllReadyH.nil
    go_simp
    refine (lkSetFirst_c hn (k + 1) (by omega) W8.out.at_).mono ?_; rintro e w9 ⟨rfl, h1, h2⟩; have W9 := hidp (W8.out.call h1 h2); clear h1 h2 W8
    refine hK.out _ _ ?_ (fun hHeld => ?_)
    · (try dsimp only)
      first | exact W7.out.drew.held.six' | exact W8.out.held.six' | exact W9.out.held.six' | exact hHeld
    clear hK K
    (try simp only [Act.put, gA, gB, gC, sA, sB, sC])
    refine wpAnyH_done (by kernel_rfl) ?_ _
    obtain ⟨x0, x1, x2, x3, x4, x5⟩ := W9.out.held.six'
    go_wp2
    go_end0
    exact ⟨rfl, by rw [HE.out]; exact W9.out.fin⟩
theorem lkPush_c (hn : n < 2 ^ 40) (hq : q ≤ 2 ^ 31) (p : Int) (h : (vOb base b n wh K).At w0 A G st w) :
    Calls Tryz.prog 124 #[.pointer (some ⟨b, 0, none⟩), .agg #[.int .i64 t, .int .i64 q, .int .i64 s], .int .i64 hd, .int .i64 p] w fun e w' => e = .returned (.tuple #[]) ∧ (vOb base b n wh K).At w0 A G (pushI n K t q s hd p st) w' ∧ Stay G w w' := by
  cases hp : pgB q p with
  | false => rw [(pgB_none hp).1]; exact lkPush_no hn p hp h
  | true =>
    have h1 := (pgB_iff _ _).1 hp
    obtain ⟨k, rfl⟩ := Int.eq_ofNat_of_zero_le h1.1
    rw [(pgB_nat hp).1]
    exact lkPush_yes hn k hp (by omega) h

theorem lkPull_no (hn : n < 2 ^ 40) (p : Int) (hp : pgB q p = false) (h : (vOb base b n wh K).At w0 A G st w) :
    Calls Tryz.prog 128 #[.pointer (some ⟨b, 0, none⟩), .agg #[.int .i64 t, .int .i64 q, .int .i64 s], .int .i64 hd, .int .i64 p] w fun e w' => e = .returned (.tuple #[]) ∧ (vOb base b n wh K).At w0 A G (st) w' ∧ Stay G w w' := by
  have W0 := hidp (WK.two h (.cells #[.int .i64 t, .int .i64 q, .int .i64 s] 23) 165 #[.pointer (some ⟨b, 0, none⟩), .int .i64 t, .int .i64 q, .int .i64 s, .int .i64 hd, .int .i64 p])
  obtain ⟨x0, x1, x2, x3, x4, x5⟩ := W0.out.held.six'
  have HK := hidp hp
  clear h hp
  go_enter Tryz.func128, Tryz.ntmps128
  go_wp2_with fail
  refine (lkIs_c b t q s hd p _).mono ?_; rintro e w1 ⟨rfl, hb⟩; rw [HK.out]; have W1 := hidp (W0.out.keep hb); clear hb W0
  go_wp2
  (try simp only [Exit.inBlock, Exit.then])
  refine bodyPost_ret (results_none rfl _ _ _) rfl ?_
  exact ⟨rfl, W1.out.fin⟩

set_option maxHeartbeats 3200000 in
theorem lkPull_yes (hn : n < 2 ^ 40) (k : Nat) (hk : pgB q (k : Int) = true) (hk31 : k < 2 ^ 31) (h : (vOb base b n wh K).At w0 A G st w) :
    Calls Tryz.prog 128 #[.pointer (some ⟨b, 0, none⟩), .agg #[.int .i64 t, .int .i64 q, .int .i64 s], .int .i64 hd, .int .i64 (k : Int)] w fun e w' => e = .returned (.tuple #[]) ∧ (vOb base b n wh K).At w0 A G (pullS n K t q s hd k st) w' ∧ Stay G w w' := by
  have W0 := hidp (WK.two h (.cells #[.int .i64 t, .int .i64 q, .int .i64 s] 23) 165 #[.pointer (some ⟨b, 0, none⟩), .int .i64 t, .int .i64 q, .int .i64 s, .int .i64 hd, .int .i64 (k : Int)])
  obtain ⟨x0, x1, x2, x3, x4, x5⟩ := W0.out.held.six'
  have HK := hidp hk
  obtain ⟨x, hx⟩ : ∃ x, pullN n K t q s k st = x := ⟨_, rfl⟩
  obtain ⟨y, hy⟩ : ∃ y, pullB n K t q s k st = y := ⟨_, rfl⟩
  have hx32 : x < 2 ^ 32 := by rw [← hx]; exact vAt_lt h _
  have HX : Hid (getV n K st (pageI t q s (k : Int) 2) = x) := hidp hx
  have HY : Hid (getV n K (getS n K st (pageI t q s (k : Int) 2)) (pageI t q s (k : Int) 3) = y) := hidp hy
  have H0 : Hid (pull0 n K t q s k st = getS n K (getS n K st (pageI t q s (k : Int) 2)) (pageI t q s (k : Int) 3)) := hidp rfl
  have HA : Hid (y = 0 → pull1 n K t q s hd k st = putS n (pull0 n K t q s k st) hd x) := hidp (fun e => by unfold pull1; rw [if_pos (hy.trans e), hx])
  have HB : Hid (y ≠ 0 → pull1 n K t q s hd k st = putS n (pull0 n K t q s k st) (pageI t q s ((y : Int) - 1) 2) x) := hidp (fun e => by unfold pull1; rw [if_neg (by rw [hy]; exact e), hx, hy])
  have HC : Hid (x = 0 → pull2 n K t q s hd k st = pull1 n K t q s hd k st) := hidp (fun e => by unfold pull2; rw [if_pos (hx.trans e)])
  have HD : Hid (x ≠ 0 → pull2 n K t q s hd k st = putS n (pull1 n K t q s hd k st) (pageI t q s ((x : Int) - 1) 3) y) := hidp (fun e => by unfold pull2; rw [if_neg (by rw [hx]; exact e), hx, hy])
  have HE : Hid (pullS n K t q s hd k st = putS n (putS n (pull2 n K t q s hd k st) (pageI t q s (k : Int) 2) 0) (pageI t q s (k : Int) 3) 0) := hidp rfl
  clear hx hy
  clear h hk
  go_enter Tryz.func128, Tryz.ntmps128
  go_wp2_with fail
  refine (lkIs_c b t q s hd k _).mono ?_; rintro e w1 ⟨rfl, hb⟩; have W1 := hidp (W0.out.keep hb); clear hb W0; rw [HK.out]
  obtain ⟨x0, x1, x2, x3, x4, x5⟩ := W1.out.held.six'
  go_wp2_with fail
  refine wp_region_held_drew (S := (fun w' => w'.cell? ⟨w.heap.size + 1, 0, none⟩ = some (.pointer (some ⟨b, 0, none⟩)) ∧ w'.cell? ⟨w.heap.size + 1, 1, none⟩ = some (.int .i64 t) ∧ w'.cell? ⟨w.heap.size + 1, 2, none⟩ = some (.int .i64 q) ∧ w'.cell? ⟨w.heap.size + 1, 3, none⟩ = some (.int .i64 s) ∧ w'.cell? ⟨w.heap.size + 1, 4, none⟩ = some (.int .i64 hd) ∧ w'.cell? ⟨w.heap.size + 1, 5, none⟩ = some (.int .i64 (k : Int)))) (by kernel_rfl) ?_ (fun hHeld => ?_)
  · (try dsimp only)
    first | exact W1.out.drew.held.six' | exact W2.out.held.six' | exact W3.out.held.six' | exact hHeld
  refine tkz 0 ?_
  refine tkz 2 ?_
  refine wpAnyH_ready (rs := [1]) (by kernel_rfl) (by simp) ?_
  refine AllReadyH.cons (o := _) rfl (fun K hK => ?_) AllReadyH.nil
  go_simp
  refine (lkNext_c hn W1.out.drew.at_).mono ?_; rintro e w2 ⟨rfl, h1, h2⟩; have W2 := hidp (W1.out.drew.call h1 h2); have HZ := W2; clear h1 h2 W1; rw [HX.out]
  refine hK.out _ _ ?_ (fun hHeld => ?_)
  · (try dsimp only)
    first | exact W1.out.drew.held.six' | exact W2.out.held.six' | exact W3.out.held.six' | exact hHeld
  clear hK K
  (try simp only [Act.put, gA, gB, gC, sA, sB, sC])
  refine wpAnyH_ready (rs := [3]) (by kernel_rfl) (by simp) ?_
  refine AllReadyH.cons (o := _) rfl (fun K hK => ?_) AllReadyH.nil
  go_simp
  refine (lkPrev_c hn W2.out.at_).mono ?_; rintro e w3 ⟨rfl, h1, h2⟩; have W3 := hidp (W2.out.call h1 h2); clear h1 h2 W2; have hy32 : y < 2 ^ 32 := by { rw [← HY.out]; exact vAt_lt HZ.out.at_ _ }; clear HZ; rw [HY.out]
  refine hK.out _ _ ?_ (fun hHeld => ?_)
  · (try dsimp only)
    first | exact W1.out.drew.held.six' | exact W2.out.held.six' | exact W3.out.held.six' | exact hHeld
  clear hK K
  (try simp only [Act.put, gA, gB, gC, sA, sB, sC])
  refine tkz 4 ?_
  refine tkz 5 ?_
  refine wpAnyH_done (by kernel_rfl) ?_ _
  obtain ⟨x0, x1, x2, x3, x4, x5⟩ := W3.out.held.six'
  rw [← H0.out] at W3
  clear HX HY H0 HK
  by_cases hyz : y = 0
  · have HM := hidp (HA.out hyz)
    subst hyz
    go_wp2_with fail
    refine (lkSetFirst_c hn x hx32 W3.out.at_).mono ?_; rintro e w4 ⟨rfl, h1, h2⟩; have W4 := hidp (W3.out.call h1 h2); clear h1 h2 W3
    obtain ⟨x0, x1, x2, x3, x4, x5⟩ := W4.out.held.six'
    rw [← HM.out] at W4
    clear HA HB HM
    by_cases hxz : x = 0
    · have HN := hidp (HC.out hxz)
      subst hxz
      clear HC HD
      go_wp2_with fail
      refine (lkSetNext_c hn 0 (by omega) W4.out.at_).mono ?_; rintro e w5 ⟨rfl, h1, h2⟩; have W5 := hidp (W4.out.call h1 h2); clear h1 h2 W4
      obtain ⟨x0, x1, x2, x3, x4, x5⟩ := W5.out.held.six'
      go_wp2_with fail
      refine (lkSetPrev_c hn 0 (by omega) W5.out.at_).mono ?_; rintro e w6 ⟨rfl, h1, h2⟩; have W6 := hidp (W5.out.call h1 h2); clear h1 h2 W5
      obtain ⟨x0, x1, x2, x3, x4, x5⟩ := W6.out.held.six'
      go_wp2
      go_end0
      exact ⟨rfl, by rw [HE.out, HN.out]; exact W6.out.fin⟩
    · have HN := hidp (HD.out hxz)
      have t3 : ((x : Int) == 0) = false := by simp; omega
      have t4 : ((x : Int) != 0) = true := by simp; omega
      clear HC HD
      go_wp2_with fail
      refine (lkTo_c b t q s hd x hx32 _).mono ?_; rintro e w5 ⟨rfl, hb⟩; have W5 := hidp (W4.out.keep hb); clear hb W4
      obtain ⟨x0, x1, x2, x3, x4, x5⟩ := W5.out.held.six'
      go_wp2_with fail
      refine (lkSetPrev_c hn 0 (by omega) W5.out.at_).mono ?_; rintro e w6 ⟨rfl, h1, h2⟩; have W6 := hidp (W5.out.call h1 h2); clear h1 h2 W5
      obtain ⟨x0, x1, x2, x3, x4, x5⟩ := W6.out.held.six'
      go_wp2_with fail
      refine (lkSetNext_c hn 0 (by omega) W6.out.at_).mono ?_; rintro e w7 ⟨rfl, h1, h2⟩; have W7 := hidp (W6.out.call h1 h2); clear h1 h2 W6
      obtain ⟨x0, x1, x2, x3, x4, x5⟩ := W7.out.held.six'
      go_wp2_with fail
      refine (lkSetPrev_c hn 0 (by omega) W7.out.at_).mono ?_; rintro e w8 ⟨rfl, h1, h2⟩; have W8 := hidp (W7.out.call h1 h2); clear h1 h2 W7
      obtain ⟨x0, x1, x2, x3, x4, x5⟩ := W8.out.held.six'
      go_wp2
      go_end0
      exact ⟨rfl, by rw [HE.out, HN.out]; exact W8.out.fin⟩
  · have HM := hidp (HB.out hyz)
    have t1 : ((y : Int) == 0) = false := by simp; omega
    have t2 : ((y : Int) != 0) = true := by simp; omega
    go_wp2_with fail
    refine (lkTo_c b t q s hd y hy32 _).mono ?_; rintro e w4 ⟨rfl, hb⟩; have W4 := hidp (W3.out.keep hb); clear hb W3
    obtain ⟨x0, x1, x2, x3, x4, x5⟩ := W4.out.held.six'
    go_wp2_with fail
    refine (lkSetNext_c hn x hx32 W4.out.at_).mono ?_; rintro e w5 ⟨rfl, h1, h2⟩; have W5 := hidp (W4.out.call h1 h2); clear h1 h2 W4
    obtain ⟨x0, x1, x2, x3, x4, x5⟩ := W5.out.held.six'
    rw [← HM.out] at W5
    clear HA HB HM
    by_cases hxz : x = 0
    · have HN := hidp (HC.out hxz)
      subst hxz
      clear HC HD
      go_wp2_with fail
      refine (lkSetNext_c hn 0 (by omega) W5.out.at_).mono ?_; rintro e w6 ⟨rfl, h1, h2⟩; have W6 := hidp (W5.out.call h1 h2); clear h1 h2 W5
      obtain ⟨x0, x1, x2, x3, x4, x5⟩ := W6.out.held.six'
      go_wp2_with fail
      refine (lkSetPrev_c hn 0 (by omega) W6.out.at_).mono ?_; rintro e w7 ⟨rfl, h1, h2⟩; have W7 := hidp (W6.out.call h1 h2); clear h1 h2 W6
      obtain ⟨x0, x1, x2, x3, x4, x5⟩ := W7.out.held.six'
      go_wp2
      go_end0
      exact ⟨rfl, by rw [HE.out, HN.out]; exact W7.out.fin⟩
    · have HN := hidp (HD.out hxz)
      have t3 : ((x : Int) == 0) = false := by simp; omega
      have t4 : ((x : Int) != 0) = true := by simp; omega
      clear HC HD
      go_wp2_with fail
      refine (lkTo_c b t q s hd x hx32 _).mono ?_; rintro e w6 ⟨rfl, hb⟩; have W6 := hidp (W5.out.keep hb); clear hb W5
      obtain ⟨x0, x1, x2, x3, x4, x5⟩ := W6.out.held.six'
      go_wp2_with fail
      refine (lkSetPrev_c hn y hy32 W6.out.at_).mono ?_; rintro e w7 ⟨rfl, h1, h2⟩; have W7 := hidp (W6.out.call h1 h2); clear h1 h2 W6
      obtain ⟨x0, x1, x2, x3, x4, x5⟩ := W7.out.held.six'
      go_wp2_with fail
      refine (lkSetNext_c hn 0 (by omega) W7.out.at_).mono ?_; rintro e w8 ⟨rfl, h1, h2⟩; have W8 := hidp (W7.out.call h1 h2); clear h1 h2 W7
      obtain ⟨x0, x1, x2, x3, x4, x5⟩ := W8.out.held.six'
      go_wp2_with fail
      refine (lkSetPrev_c hn 0 (by omega) W8.out.at_).mono ?_; rintro e w9 ⟨rfl, h1, h2⟩; have W9 := hidp (W8.out.call h1 h2); clear h1 h2 W8
      obtain ⟨x0, x1, x2, x3, x4, x5⟩ := W9.out.held.six'
      go_wp2
      go_end0
      exact ⟨rfl, by rw [HE.out, HN.out]; exact W9.out.fin⟩
theorem lkPull_c (hn : n < 2 ^ 40) (hq : q ≤ 2 ^ 31) (p : Int) (h : (vOb base b n wh K).At w0 A G st w) :
    Calls Tryz.prog 128 #[.pointer (some ⟨b, 0, none⟩), .agg #[.int .i64 t, .int .i64 q, .int .i64 s], .int .i64 hd, .int .i64 p] w fun e w' => e = .returned (.tuple #[]) ∧ (vOb base b n wh K).At w0 A G (pullI n K t q s hd p st) w' ∧ Stay G w w' := by
  cases hp : pgB q p with
  | false => rw [(pgB_none hp).2]; exact lkPull_no hn p hp h
  | true =>
    have h1 := (pgB_iff _ _).1 hp
    obtain ⟨k, rfl⟩ := Int.eq_ofNat_of_zero_le h1.1
    rw [(pgB_nat hp).2]
    exact lkPull_yes hn k hp (by omega) h

end
end
end Go.Proofs.YtioolaaphbddbaaGreatDoor

namespace Go.Proofs.YtioolaaphbddbaaGreatDoor
open Go.ChangeShapes Go.WideShapes Go.ChangeAt Go.RowKit
set_option linter.unusedVariables false
set_option linter.unusedSimpArgs false
section
theorem r7Bin_c (k : Int) (w : World) :
    Calls Tryz.prog 109 #[.int .i64 k] w fun z w' => z = .returned (.int .i64 (nthI 2 11 1 k)) ∧ w = w' := by
  by_cases c0 : k < 0
  · have HN := hidp (nth_off (f := 2) (n := 11) (e := 1) (.inr (.inl c0)))
    go_enter Tryz.func109, Tryz.ntmps109
    go_wp2
    go_ret
    exact ⟨by rw [HN.out]; rfl, rfl⟩
  · by_cases c1 : 11 ≤ k
    · have HN := hidp (nth_off (f := 2) (n := 11) (e := 1) (.inr (.inr c1)))
      go_enter Tryz.func109, Tryz.ntmps109
      go_wp2
      go_ret
      exact ⟨by rw [HN.out]; rfl, rfl⟩
    · have HN := hidp (show nthI 2 11 1 k = 2 + k by rw [nth_on (by omega) (by omega) (by omega)]; omega)
      go_enter Tryz.func109, Tryz.ntmps109
      go_wp2
      go_ret
      exact ⟨by rw [HN.out]; rfl, rfl⟩

theorem r7Rack_c (k : Int) (w : World) :
    Calls Tryz.prog 40 #[.int .i64 k] w fun z w' => z = .returned (.int .i64 (nthI 13 9 1 k)) ∧ w = w' := by
  by_cases c0 : k < 0
  · have HN := hidp (nth_off (f := 13) (n := 9) (e := 1) (.inr (.inl c0)))
    go_enter Tryz.func40, Tryz.ntmps40
    go_wp2
    go_ret
    exact ⟨by rw [HN.out]; rfl, rfl⟩
  · by_cases c1 : 9 ≤ k
    · have HN := hidp (nth_off (f := 13) (n := 9) (e := 1) (.inr (.inr c1)))
      go_enter Tryz.func40, Tryz.ntmps40
      go_wp2
      go_ret
      exact ⟨by rw [HN.out]; rfl, rfl⟩
    · have HN := hidp (show nthI 13 9 1 k = 13 + k by rw [nth_on (by omega) (by omega) (by omega)]; omega)
      go_enter Tryz.func40, Tryz.ntmps40
      go_wp2
      go_ret
      exact ⟨by rw [HN.out]; rfl, rfl⟩

theorem r7Root_c (k : Int) (w : World) :
    Calls Tryz.prog 62 #[.int .i64 k] w fun z w' => z = .returned (.int .i64 (nthI 22 8 1 k)) ∧ w = w' := by
  by_cases c0 : k < 0
  · have HN := hidp (nth_off (f := 22) (n := 8) (e := 1) (.inr (.inl c0)))
    go_enter Tryz.func62, Tryz.ntmps62
    go_wp2
    go_ret
    exact ⟨by rw [HN.out]; rfl, rfl⟩
  · by_cases c1 : 8 ≤ k
    · have HN := hidp (nth_off (f := 22) (n := 8) (e := 1) (.inr (.inr c1)))
      go_enter Tryz.func62, Tryz.ntmps62
      go_wp2
      go_ret
      exact ⟨by rw [HN.out]; rfl, rfl⟩
    · have HN := hidp (show nthI 22 8 1 k = 22 + k by rw [nth_on (by omega) (by omega) (by omega)]; omega)
      go_enter Tryz.func62, Tryz.ntmps62
      go_wp2
      go_ret
      exact ⟨by rw [HN.out]; rfl, rfl⟩

theorem r7Cells_c (t p s : Int) (w : World) :
    Calls Tryz.prog 66 #[.agg #[.int .i64 t, .int .i64 p, .int .i64 s]] w fun z w' => z = .returned (.int .i64 (lC t p s)) ∧ Below w.heap.size w w' := by
  have hc := Held.new w 23 #[.int .i64 t, .int .i64 p, .int .i64 s]
  cases hr : rightB t p s
  · have HR := hidp hr
    have HN := hidp (lay_no hr).hC
    clear hr
    go_enter Tryz.func66, Tryz.ntmps66
    go_wp2_with fail
    refine (r4Right_c t p s _).mono ?_
    rintro e w1 ⟨rfl, hb1⟩
    rw [HR.out]
    have hc1 := hc.keep hb1
    obtain ⟨x0, x1, x2⟩ := hc1.three
    go_wp2
    go_ret
    exact ⟨by rw [HN.out]; rfl, Bgo (Bnew (B0 _) _) hb1⟩
  · have HR := hidp hr
    have HN := hidp (lay_yes hr).hC
    have hn := (rightB_iff t p s).1 hr
    have t0 : 1 ≤ t := by omega
    have t1 : t ≤ 16 := by omega
    have p0 : 4 ≤ p := by omega
    have p1 : p ≤ 1024 := by omega
    clear hn
    clear hr
    go_enter Tryz.func66, Tryz.ntmps66
    go_wp2_with fail
    refine (r4Right_c t p s _).mono ?_
    rintro e w1 ⟨rfl, hb1⟩
    rw [HR.out]
    have hc1 := hc.keep hb1
    obtain ⟨x0, x1, x2⟩ := hc1.three
    go_wp2
    go_ret
    exact ⟨by rw [HN.out]; rfl, Bgo (Bnew (B0 _) _) hb1⟩

set_option maxHeartbeats 1600000 in
theorem r7Page_c (t p s q b : Int) (b0 : 0 ≤ b) (b1 : b < 6) (w : World) :
    Calls Tryz.prog 94 #[.agg #[.int .i64 t, .int .i64 p, .int .i64 s], .int .i64 q, .int .i64 b] w fun z w' => z = .returned (.int .i64 (pageI t p s q b)) ∧ Below w.heap.size w w' := by
  have hc := Held.new w 23 #[.int .i64 t, .int .i64 p, .int .i64 s]
  cases hr : rightB t p s
  · have HR := hidp hr
    have HN := hidp (show pageI t p s q b = -1 from pcell_no (by intro h; rw [h.1] at hr; cases hr))
    clear hr
    go_enter Tryz.func94, Tryz.ntmps94
    go_wp2_with fail
    refine (r4Right_c t p s _).mono ?_
    rintro e w1 ⟨rfl, hb1⟩
    rw [HR.out]
    have hc1 := hc.keep hb1
    obtain ⟨x0, x1, x2⟩ := hc1.three
    go_wp2
    go_ret
    refine ⟨by rw [HN.out]; rfl, ?_⟩
    repeat (first | exact B0 _ | (with_reducible refine Bgo ?_ (by assumption)) | (with_reducible refine Bdrew ?_) | (with_reducible refine Bdraw ?_ _) | (with_reducible refine Bnew ?_ _) | (with_reducible refine Bput ?_ (by first | (simp; done) | (simp; omega)) _))
  · have HR := hidp hr
    have hn := (rightB_iff t p s).1 hr
    have t0 : 1 ≤ t := by omega
    have t1 : t ≤ 16 := by omega
    have p0 : 4 ≤ p := by omega
    have p1 : p ≤ 1024 := by omega
    clear hn
    by_cases c0 : q < 0
    · clear hr
      have HN := hidp (show pageI t p s q b = -1 from pcell_no (by intro h; omega))
      go_enter Tryz.func94, Tryz.ntmps94
      go_wp2_with fail
      refine (r4Right_c t p s _).mono ?_
      rintro e w1 ⟨rfl, hb1⟩
      rw [HR.out]
      have hc1 := hc.keep hb1
      obtain ⟨x0, x1, x2⟩ := hc1.three
      go_wp2
      go_ret
      refine ⟨by rw [HN.out]; rfl, ?_⟩
      repeat (first | exact B0 _ | (with_reducible refine Bgo ?_ (by assumption)) | (with_reducible refine Bdrew ?_) | (with_reducible refine Bdraw ?_ _) | (with_reducible refine Bnew ?_ _) | (with_reducible refine Bput ?_ (by first | (simp; done) | (simp; omega)) _))
    · skip
      by_cases c1 : p ≤ q
      · clear hr
        have HN := hidp (show pageI t p s q b = -1 from pcell_no (by intro h; omega))
        go_enter Tryz.func94, Tryz.ntmps94
        go_wp2_with fail
        refine (r4Right_c t p s _).mono ?_
        rintro e w1 ⟨rfl, hb1⟩
        rw [HR.out]
        have hc1 := hc.keep hb1
        obtain ⟨x0, x1, x2⟩ := hc1.three
        go_wp2
        go_ret
        refine ⟨by rw [HN.out]; rfl, ?_⟩
        repeat (first | exact B0 _ | (with_reducible refine Bgo ?_ (by assumption)) | (with_reducible refine Bdrew ?_) | (with_reducible refine Bdraw ?_ _) | (with_reducible refine Bnew ?_ _) | (with_reducible refine Bput ?_ (by first | (simp; done) | (simp; omega)) _))
      · skip
        have HN := hidp (show pageI t p s q b = 30 + 4 * t + 6 * q + b from pcell_yes hr (by omega) (by omega) b0 b1)
        clear hr
        go_enter Tryz.func94, Tryz.ntmps94
        go_wp2_with fail
        refine (r4Right_c t p s _).mono ?_
        rintro e w1 ⟨rfl, hb1⟩
        rw [HR.out]
        have hc1 := hc.keep hb1
        obtain ⟨x0, x1, x2⟩ := hc1.three
        go_wp2
        go_ret
        refine ⟨by rw [HN.out]; rfl, ?_⟩
        repeat (first | exact B0 _ | (with_reducible refine Bgo ?_ (by assumption)) | (with_reducible refine Bdrew ?_) | (with_reducible refine Bdraw ?_ _) | (with_reducible refine Bnew ?_ _) | (with_reducible refine Bput ?_ (by first | (simp; done) | (simp; omega)) _))

theorem r7Info_c (t p s q : Int) (w : World) :
    Calls Tryz.prog 43 #[.agg #[.int .i64 t, .int .i64 p, .int .i64 s], .int .i64 q] w fun z w' => z = .returned (.int .i64 (pageI t p s q 0)) ∧ Below w.heap.size w w' := by
  go_enter Tryz.func43, Tryz.ntmps43
  go_wp2_with fail
  refine (r7Page_c t p s q 0 (by omega) (by omega) _).mono ?_
  rintro e w1 ⟨rfl, hb1⟩
  go_wp2
  go_ret
  exact ⟨by first | rfl | trivial, Bgo (Bnew (B0 _) _) hb1⟩

theorem r7Foot_c (t p s q : Int) (w : World) :
    Calls Tryz.prog 92 #[.agg #[.int .i64 t, .int .i64 p, .int .i64 s], .int .i64 q] w fun z w' => z = .returned (.int .i64 (pageI t p s q 1)) ∧ Below w.heap.size w w' := by
  go_enter Tryz.func92, Tryz.ntmps92
  go_wp2_with fail
  refine (r7Page_c t p s q 1 (by omega) (by omega) _).mono ?_
  rintro e w1 ⟨rfl, hb1⟩
  go_wp2
  go_ret
  exact ⟨by first | rfl | trivial, Bgo (Bnew (B0 _) _) hb1⟩

theorem r7Next_c (t p s q : Int) (w : World) :
    Calls Tryz.prog 96 #[.agg #[.int .i64 t, .int .i64 p, .int .i64 s], .int .i64 q] w fun z w' => z = .returned (.int .i64 (pageI t p s q 2)) ∧ Below w.heap.size w w' := by
  go_enter Tryz.func96, Tryz.ntmps96
  go_wp2_with fail
  refine (r7Page_c t p s q 2 (by omega) (by omega) _).mono ?_
  rintro e w1 ⟨rfl, hb1⟩
  go_wp2
  go_ret
  exact ⟨by first | rfl | trivial, Bgo (Bnew (B0 _) _) hb1⟩

theorem r7Prev_c (t p s q : Int) (w : World) :
    Calls Tryz.prog 97 #[.agg #[.int .i64 t, .int .i64 p, .int .i64 s], .int .i64 q] w fun z w' => z = .returned (.int .i64 (pageI t p s q 3)) ∧ Below w.heap.size w w' := by
  go_enter Tryz.func97, Tryz.ntmps97
  go_wp2_with fail
  refine (r7Page_c t p s q 3 (by omega) (by omega) _).mono ?_
  rintro e w1 ⟨rfl, hb1⟩
  go_wp2
  go_ret
  exact ⟨by first | rfl | trivial, Bgo (Bnew (B0 _) _) hb1⟩

theorem r7Slots_c (t p s q : Int) (w : World) :
    Calls Tryz.prog 98 #[.agg #[.int .i64 t, .int .i64 p, .int .i64 s], .int .i64 q] w fun z w' => z = .returned (.int .i64 (pageI t p s q 4)) ∧ Below w.heap.size w w' := by
  go_enter Tryz.func98, Tryz.ntmps98
  go_wp2_with fail
  refine (r7Page_c t p s q 4 (by omega) (by omega) _).mono ?_
  rintro e w1 ⟨rfl, hb1⟩
  go_wp2
  go_ret
  exact ⟨by first | rfl | trivial, Bgo (Bnew (B0 _) _) hb1⟩

theorem r7Taken_c (t p s q : Int) (w : World) :
    Calls Tryz.prog 46 #[.agg #[.int .i64 t, .int .i64 p, .int .i64 s], .int .i64 q] w fun z w' => z = .returned (.int .i64 (pageI t p s q 5)) ∧ Below w.heap.size w w' := by
  go_enter Tryz.func46, Tryz.ntmps46
  go_wp2_with fail
  refine (r7Page_c t p s q 5 (by omega) (by omega) _).mono ?_
  rintro e w1 ⟨rfl, hb1⟩
  go_wp2
  go_ret
  exact ⟨by first | rfl | trivial, Bgo (Bnew (B0 _) _) hb1⟩
end
end Go.Proofs.YtioolaaphbddbaaGreatDoor

namespace Go.Proofs.YtioolaaphbddbaaGreatDoor
open Go.ChangeShapes Go.WideShapes Go.ChangeAt Go.RowKit Go.Maps
set_option linter.unusedVariables false
set_option linter.unusedSimpArgs false
set_option maxRecDepth 100000
section
section
variable {base b n : Nat} {all : Bool} {K : Nat → Option Nat} {st : Vst} {w w0 : World} {A G : Nat → Prop} {t q s hd : Int}

theorem rkPush_no (p : Int) (hp : pgB q p = false) (h : (rOb base b n all K).At w0 A G st w) :
    Calls Tryz.prog 45 #[.pointer (some ⟨b, 0, none⟩), .agg #[.int .i64 t, .int .i64 q, .int .i64 s], .int .i64 hd, .int .i64 p] w fun e w' => e = .returned (.tuple #[]) ∧ (rOb base b n all K).At w0 A G (st) w' ∧ Stay G w w' := by
  have W0 := hidp (WK.one h 23 #[.int .i64 t, .int .i64 q, .int .i64 s])
  obtain ⟨x0, x1, x2⟩ := W0.out.held.three
  have hp := pgB_no hp
  clear h
  by_cases h0 : p < 0
  · have t0 : decide (p < (0 : Int)) = true := decide_eq_true h0
    go_enter Tryz.func45, Tryz.ntmps45
    go_wp2
    (try simp only [Exit.inBlock, Exit.then])
    refine bodyPost_ret (results_none rfl _ _ _) rfl ?_
    exact ⟨rfl, W0.out.fin⟩
  · have t0 : decide (p < (0 : Int)) = false := decide_eq_false h0
    have t1 : decide (q ≤ p) = true := decide_eq_true (by omega)
    go_enter Tryz.func45, Tryz.ntmps45
    go_wp2
    (try simp only [Exit.inBlock, Exit.then])
    refine bodyPost_ret (results_none rfl _ _ _) rfl ?_
    exact ⟨rfl, W0.out.fin⟩

set_option maxHeartbeats 3200000 in
theorem rkPush_yes (hn : n < 2 ^ 40) (k : Nat) (hk : pgB q (k : Int) = true) (hk31 : k < 2 ^ 31) (h : (rOb base b n all K).At w0 A G st w) :
    Calls Tryz.prog 45 #[.pointer (some ⟨b, 0, none⟩), .agg #[.int .i64 t, .int .i64 q, .int .i64 s], .int .i64 hd, .int .i64 (k : Int)] w fun e w' => e = .returned (.tuple #[]) ∧ (rOb base b n all K).At w0 A G (pushS n K t q s hd k st) w' ∧ Stay G w w' := by
  have W0 := hidp (WK.one h 23 #[.int .i64 t, .int .i64 q, .int .i64 s])
  obtain ⟨x0, x1, x2⟩ := W0.out.held.three
  have hk2 := (pgB_iff _ _).1 hk
  have t8 : decide ((k : Int) < 0) = false := decide_eq_false (by omega)
  have t9 : decide (q ≤ (k : Int)) = false := decide_eq_false (by omega)
  have sk : IntKind.u32.wrap ((k : Int) + 1) = ((k + 1 : Nat) : Int) := by have := wrap_nat32 (k + 1) (by omega); simpa using this
  obtain ⟨l, hl⟩ : ∃ l, getV n K st hd = l := ⟨_, rfl⟩
  have hl32 : l < 2 ^ 32 := by rw [← hl]; exact rAt_lt h hd
  have HL := hidp hl
  have HQ : Hid (push1 n K t q s hd k st = putS n (putS n (getS n K st hd) (pageI t q s (k : Int) 2) l) (pageI t q s (k : Int) 3) 0) := hidp (by unfold push1; rw [hl])
  have HP : Hid (l = 0 → pushS n K t q s hd k st = putS n (push1 n K t q s hd k st) hd (k + 1)) := hidp (fun e => by unfold pushS push2; rw [if_pos (hl.trans e)])
  have HR : Hid (l ≠ 0 → pushS n K t q s hd k st = putS n (putS n (push1 n K t q s hd k st) (pageI t q s ((l : Int) - 1) 3) (k + 1)) hd (k + 1)) := hidp (fun e => by unfold pushS push2; rw [if_neg (by rw [hl]; exact e), hl])
  clear hl
  clear h hk hk2
  go_enter Tryz.func45, Tryz.ntmps45
  go_wp2_with fail
  refine (rGetA hn hd W0.out.at_).mono ?_; rintro e w1 ⟨rfl, h1, h2⟩; have W1 := hidp (W0.out.call h1 h2); clear h1 h2 W0; rw [HL.out]
  obtain ⟨x0, x1, x2⟩ := W1.out.held.three
  go_wp2_with fail
  refine (r7Next_c t q s (k : Int) _).mono ?_; rintro e w2 ⟨rfl, hb⟩; have W2 := hidp (W1.out.keep hb); clear hb W1
  obtain ⟨x0, x1, x2⟩ := W2.out.held.three
  go_wp2_with fail
  refine (rPutA hn _ l hl32 W2.out.at_).mono ?_; rintro e w3 ⟨rfl, h1, h2⟩; have W3 := hidp (W2.out.call h1 h2); clear h1 h2 W2
  obtain ⟨x0, x1, x2⟩ := W3.out.held.three
  go_wp2_with fail
  refine (r7Prev_c t q s (k : Int) _).mono ?_; rintro e w4 ⟨rfl, hb⟩; have W4 := hidp (W3.out.keep hb); clear hb W3
  obtain ⟨x0, x1, x2⟩ := W4.out.held.three
  go_wp2_with fail
  refine (rPutA hn _ 0 (by omega) W4.out.at_).mono ?_; rintro e w5 ⟨rfl, h1, h2⟩; have W5 := hidp (W4.out.call h1 h2); clear h1 h2 W4
  obtain ⟨x0, x1, x2⟩ := W5.out.held.three
  rw [← HQ.out] at W5
  clear HL HQ
  by_cases hz : l = 0
  · have HE := hidp (HP.out hz)
    subst hz
    clear HP HR
    go_wp2_with fail
    refine (rPutA hn hd (k + 1) (by omega) W5.out.at_).mono ?_; rintro e w6 ⟨rfl, h1, h2⟩; have W6 := hidp (W5.out.call h1 h2); clear h1 h2 W5
    obtain ⟨x0, x1, x2⟩ := W6.out.held.three
    go_wp2
    go_end0
    exact ⟨rfl, by rw [HE.out]; exact W6.out.fin⟩
  · have HE := hidp (HR.out hz)
    have t1 : ((l : Int) == 0) = false := by simp; omega
    have t2 : ((l : Int) != 0) = true := by simp; omega
    clear HP HR
    go_wp2_with fail
    refine (r7Prev_c t q s ((l : Int) - 1) _).mono ?_; rintro e w6 ⟨rfl, hb⟩; have W6 := hidp (W5.out.keep hb); clear hb W5
    obtain ⟨x0, x1, x2⟩ := W6.out.held.three
    go_wp2_with fail
    refine (rPutA hn _ (k + 1) (by omega) W6.out.at_).mono ?_; rintro e w7 ⟨rfl, h1, h2⟩; have W7 := hidp (W6.out.call h1 h2); clear h1 h2 W6
    obtain ⟨x0, x1, x2⟩ := W7.out.held.three
    go_wp2_with fail
    refine (rPutA hn hd (k + 1) (by omega) W7.out.at_).mono ?_; rintro e w8 ⟨rfl, h1, h2⟩; have W8 := hidp (W7.out.call h1 h2); clear h1 h2 W7
    obtain ⟨x0, x1, x2⟩ := W8.out.held.three
    go_wp2
    go_end0
    exact ⟨rfl, by rw [HE.out]; exact W8.out.fin⟩
theorem rkPush_c (hn : n < 2 ^ 40) (hq : q ≤ 2 ^ 31) (p : Int) (h : (rOb base b n all K).At w0 A G st w) :
    Calls Tryz.prog 45 #[.pointer (some ⟨b, 0, none⟩), .agg #[.int .i64 t, .int .i64 q, .int .i64 s], .int .i64 hd, .int .i64 p] w fun e w' => e = .returned (.tuple #[]) ∧ (rOb base b n all K).At w0 A G (pushI n K t q s hd p st) w' ∧ Stay G w w' := by
  cases hp : pgB q p with
  | false => rw [(pgB_none hp).1]; exact rkPush_no p hp h
  | true =>
    have h1 := (pgB_iff _ _).1 hp
    obtain ⟨k, rfl⟩ := Int.eq_ofNat_of_zero_le h1.1
    rw [(pgB_nat hp).1]
    exact rkPush_yes hn k hp (by omega) h

theorem rkPull_no (p : Int) (hp : pgB q p = false) (h : (rOb base b n all K).At w0 A G st w) :
    Calls Tryz.prog 50 #[.pointer (some ⟨b, 0, none⟩), .agg #[.int .i64 t, .int .i64 q, .int .i64 s], .int .i64 hd, .int .i64 p] w fun e w' => e = .returned (.tuple #[]) ∧ (rOb base b n all K).At w0 A G (st) w' ∧ Stay G w w' := by
  have W0 := hidp (WK.one h 23 #[.int .i64 t, .int .i64 q, .int .i64 s])
  obtain ⟨x0, x1, x2⟩ := W0.out.held.three
  have hp := pgB_no hp
  clear h
  by_cases h0 : p < 0
  · have t0 : decide (p < (0 : Int)) = true := decide_eq_true h0
    go_enter Tryz.func50, Tryz.ntmps50
    go_wp2
    (try simp only [Exit.inBlock, Exit.then])
    refine bodyPost_ret (results_none rfl _ _ _) rfl ?_
    exact ⟨rfl, W0.out.fin⟩
  · have t0 : decide (p < (0 : Int)) = false := decide_eq_false h0
    have t1 : decide (q ≤ p) = true := decide_eq_true (by omega)
    go_enter Tryz.func50, Tryz.ntmps50
    go_wp2
    (try simp only [Exit.inBlock, Exit.then])
    refine bodyPost_ret (results_none rfl _ _ _) rfl ?_
    exact ⟨rfl, W0.out.fin⟩

set_option maxHeartbeats 3200000 in
theorem rkPull_yes (hn : n < 2 ^ 40) (k : Nat) (hk : pgB q (k : Int) = true) (hk31 : k < 2 ^ 31) (h : (rOb base b n all K).At w0 A G st w) :
    Calls Tryz.prog 50 #[.pointer (some ⟨b, 0, none⟩), .agg #[.int .i64 t, .int .i64 q, .int .i64 s], .int .i64 hd, .int .i64 (k : Int)] w fun e w' => e = .returned (.tuple #[]) ∧ (rOb base b n all K).At w0 A G (pullS n K t q s hd k st) w' ∧ Stay G w w' := by
  have W0 := hidp (WK.one h 23 #[.int .i64 t, .int .i64 q, .int .i64 s])
  obtain ⟨x0, x1, x2⟩ := W0.out.held.three
  have hk2 := (pgB_iff _ _).1 hk
  have t8 : decide ((k : Int) < 0) = false := decide_eq_false (by omega)
  have t9 : decide (q ≤ (k : Int)) = false := decide_eq_false (by omega)
  have sk : IntKind.u32.wrap ((k : Int) + 1) = ((k + 1 : Nat) : Int) := by have := wrap_nat32 (k + 1) (by omega); simpa using this
  obtain ⟨x, hx⟩ : ∃ x, pullN n K t q s k st = x := ⟨_, rfl⟩
  obtain ⟨y, hy⟩ : ∃ y, pullB n K t q s k st = y := ⟨_, rfl⟩
  have hx32 : x < 2 ^ 32 := by rw [← hx]; exact rAt_lt h _
  have HX : Hid (getV n K st (pageI t q s (k : Int) 2) = x) := hidp hx
  have HY : Hid (getV n K (getS n K st (pageI t q s (k : Int) 2)) (pageI t q s (k : Int) 3) = y) := hidp hy
  have H0 : Hid (pull0 n K t q s k st = getS n K (getS n K st (pageI t q s (k : Int) 2)) (pageI t q s (k : Int) 3)) := hidp rfl
  have HA : Hid (y = 0 → pull1 n K t q s hd k st = putS n (pull0 n K t q s k st) hd x) := hidp (fun e => by unfold pull1; rw [if_pos (hy.trans e), hx])
  have HB : Hid (y ≠ 0 → pull1 n K t q s hd k st = putS n (pull0 n K t q s k st) (pageI t q s ((y : Int) - 1) 2) x) := hidp (fun e => by unfold pull1; rw [if_neg (by rw [hy]; exact e), hx, hy])
  have HC : Hid (x = 0 → pull2 n K t q s hd k st = pull1 n K t q s hd k st) := hidp (fun e => by unfold pull2; rw [if_pos (hx.trans e)])
  have HD : Hid (x ≠ 0 → pull2 n K t q s hd k st = putS n (pull1 n K t q s hd k st) (pageI t q s ((x : Int) - 1) 3) y) := hidp (fun e => by unfold pull2; rw [if_neg (by rw [hx]; exact e), hx, hy])
  have HE : Hid (pullS n K t q s hd k st = putS n (putS n (pull2 n K t q s hd k st) (pageI t q s (k : Int) 2) 0) (pageI t q s (k : Int) 3) 0) := hidp rfl
  clear hx hy
  clear h hk hk2
  go_enter Tryz.func50, Tryz.ntmps50
  go_wp2_with fail
  refine (r7Next_c t q s (k : Int) _).mono ?_; rintro e w1 ⟨rfl, hb⟩; have W1 := hidp (W0.out.keep hb); clear hb W0
  obtain ⟨x0, x1, x2⟩ := W1.out.held.three
  go_wp2_with fail
  refine (rGetA hn _ W1.out.at_).mono ?_; rintro e w2 ⟨rfl, h1, h2⟩; have W2 := hidp (W1.out.call h1 h2); clear h1 h2 W1; rw [HX.out]
  obtain ⟨x0, x1, x2⟩ := W2.out.held.three
  go_wp2_with fail
  refine (r7Prev_c t q s (k : Int) _).mono ?_; rintro e w3 ⟨rfl, hb⟩; have W3 := hidp (W2.out.keep hb); clear hb W2
  obtain ⟨x0, x1, x2⟩ := W3.out.held.three
  have hy32 : y < 2 ^ 32 := by rw [← HY.out]; exact rAt_lt W3.out.at_ _
  go_wp2_with fail
  refine (rGetA hn _ W3.out.at_).mono ?_; rintro e w4 ⟨rfl, h1, h2⟩; have W4 := hidp (W3.out.call h1 h2); clear h1 h2 W3; rw [HY.out]
  obtain ⟨x0, x1, x2⟩ := W4.out.held.three
  rw [← H0.out] at W4
  clear HX HY H0
  by_cases hyz : y = 0
  · have HM := hidp (HA.out hyz)
    subst hyz
    go_wp2_with fail
    refine (rPutA hn hd x hx32 W4.out.at_).mono ?_; rintro e w5 ⟨rfl, h1, h2⟩; have W5 := hidp (W4.out.call h1 h2); clear h1 h2 W4
    obtain ⟨x0, x1, x2⟩ := W5.out.held.three
    rw [← HM.out] at W5
    clear HA HB HM
    by_cases hxz : x = 0
    · have HN := hidp (HC.out hxz)
      subst hxz
      clear HC HD
      go_wp2_with fail
      refine (r7Next_c t q s (k : Int) _).mono ?_; rintro e w6 ⟨rfl, hb⟩; have W6 := hidp (W5.out.keep hb); clear hb W5
      obtain ⟨x0, x1, x2⟩ := W6.out.held.three
      go_wp2_with fail
      refine (rPutA hn _ 0 (by omega) W6.out.at_).mono ?_; rintro e w7 ⟨rfl, h1, h2⟩; have W7 := hidp (W6.out.call h1 h2); clear h1 h2 W6
      obtain ⟨x0, x1, x2⟩ := W7.out.held.three
      go_wp2_with fail
      refine (r7Prev_c t q s (k : Int) _).mono ?_; rintro e w8 ⟨rfl, hb⟩; have W8 := hidp (W7.out.keep hb); clear hb W7
      obtain ⟨x0, x1, x2⟩ := W8.out.held.three
      go_wp2_with fail
      refine (rPutA hn _ 0 (by omega) W8.out.at_).mono ?_; rintro e w9 ⟨rfl, h1, h2⟩; have W9 := hidp (W8.out.call h1 h2); clear h1 h2 W8
      obtain ⟨x0, x1, x2⟩ := W9.out.held.three
      go_wp2
      go_end0
      exact ⟨rfl, by rw [HE.out, HN.out]; exact W9.out.fin⟩
    · have HN := hidp (HD.out hxz)
      have t3 : ((x : Int) == 0) = false := by simp; omega
      have t4 : ((x : Int) != 0) = true := by simp; omega
      clear HC HD
      go_wp2_with fail
      refine (r7Prev_c t q s ((x : Int) - 1) _).mono ?_; rintro e w6 ⟨rfl, hb⟩; have W6 := hidp (W5.out.keep hb); clear hb W5
      obtain ⟨x0, x1, x2⟩ := W6.out.held.three
      go_wp2_with fail
      refine (rPutA hn _ 0 (by omega) W6.out.at_).mono ?_; rintro e w7 ⟨rfl, h1, h2⟩; have W7 := hidp (W6.out.call h1 h2); clear h1 h2 W6
      obtain ⟨x0, x1, x2⟩ := W7.out.held.three
      go_wp2_with fail
      refine (r7Next_c t q s (k : Int) _).mono ?_; rintro e w8 ⟨rfl, hb⟩; have W8 := hidp (W7.out.keep hb); clear hb W7
      obtain ⟨x0, x1, x2⟩ := W8.out.held.three
      go_wp2_with fail
      refine (rPutA hn _ 0 (by omega) W8.out.at_).mono ?_; rintro e w9 ⟨rfl, h1, h2⟩; have W9 := hidp (W8.out.call h1 h2); clear h1 h2 W8
      obtain ⟨x0, x1, x2⟩ := W9.out.held.three
      go_wp2_with fail
      refine (r7Prev_c t q s (k : Int) _).mono ?_; rintro e w10 ⟨rfl, hb⟩; have W10 := hidp (W9.out.keep hb); clear hb W9
      obtain ⟨x0, x1, x2⟩ := W10.out.held.three
      go_wp2_with fail
      refine (rPutA hn _ 0 (by omega) W10.out.at_).mono ?_; rintro e w11 ⟨rfl, h1, h2⟩; have W11 := hidp (W10.out.call h1 h2); clear h1 h2 W10
      obtain ⟨x0, x1, x2⟩ := W11.out.held.three
      go_wp2
      go_end0
      exact ⟨rfl, by rw [HE.out, HN.out]; exact W11.out.fin⟩
  · have HM := hidp (HB.out hyz)
    have t1 : ((y : Int) == 0) = false := by simp; omega
    have t2 : ((y : Int) != 0) = true := by simp; omega
    go_wp2_with fail
    refine (r7Next_c t q s ((y : Int) - 1) _).mono ?_; rintro e w5 ⟨rfl, hb⟩; have W5 := hidp (W4.out.keep hb); clear hb W4
    obtain ⟨x0, x1, x2⟩ := W5.out.held.three
    go_wp2_with fail
    refine (rPutA hn _ x hx32 W5.out.at_).mono ?_; rintro e w6 ⟨rfl, h1, h2⟩; have W6 := hidp (W5.out.call h1 h2); clear h1 h2 W5
    obtain ⟨x0, x1, x2⟩ := W6.out.held.three
    rw [← HM.out] at W6
    clear HA HB HM
    by_cases hxz : x = 0
    · have HN := hidp (HC.out hxz)
      subst hxz
      clear HC HD
      go_wp2_with fail
      refine (r7Next_c t q s (k : Int) _).mono ?_; rintro e w7 ⟨rfl, hb⟩; have W7 := hidp (W6.out.keep hb); clear hb W6
      obtain ⟨x0, x1, x2⟩ := W7.out.held.three
      go_wp2_with fail
      refine (rPutA hn _ 0 (by omega) W7.out.at_).mono ?_; rintro e w8 ⟨rfl, h1, h2⟩; have W8 := hidp (W7.out.call h1 h2); clear h1 h2 W7
      obtain ⟨x0, x1, x2⟩ := W8.out.held.three
      go_wp2_with fail
      refine (r7Prev_c t q s (k : Int) _).mono ?_; rintro e w9 ⟨rfl, hb⟩; have W9 := hidp (W8.out.keep hb); clear hb W8
      obtain ⟨x0, x1, x2⟩ := W9.out.held.three
      go_wp2_with fail
      refine (rPutA hn _ 0 (by omega) W9.out.at_).mono ?_; rintro e w10 ⟨rfl, h1, h2⟩; have W10 := hidp (W9.out.call h1 h2); clear h1 h2 W9
      obtain ⟨x0, x1, x2⟩ := W10.out.held.three
      go_wp2
      go_end0
      exact ⟨rfl, by rw [HE.out, HN.out]; exact W10.out.fin⟩
    · have HN := hidp (HD.out hxz)
      have t3 : ((x : Int) == 0) = false := by simp; omega
      have t4 : ((x : Int) != 0) = true := by simp; omega
      clear HC HD
      go_wp2_with fail
      refine (r7Prev_c t q s ((x : Int) - 1) _).mono ?_; rintro e w7 ⟨rfl, hb⟩; have W7 := hidp (W6.out.keep hb); clear hb W6
      obtain ⟨x0, x1, x2⟩ := W7.out.held.three
      go_wp2_with fail
      refine (rPutA hn _ y hy32 W7.out.at_).mono ?_; rintro e w8 ⟨rfl, h1, h2⟩; have W8 := hidp (W7.out.call h1 h2); clear h1 h2 W7
      obtain ⟨x0, x1, x2⟩ := W8.out.held.three
      go_wp2_with fail
      refine (r7Next_c t q s (k : Int) _).mono ?_; rintro e w9 ⟨rfl, hb⟩; have W9 := hidp (W8.out.keep hb); clear hb W8
      obtain ⟨x0, x1, x2⟩ := W9.out.held.three
      go_wp2_with fail
      refine (rPutA hn _ 0 (by omega) W9.out.at_).mono ?_; rintro e w10 ⟨rfl, h1, h2⟩; have W10 := hidp (W9.out.call h1 h2); clear h1 h2 W9
      obtain ⟨x0, x1, x2⟩ := W10.out.held.three
      go_wp2_with fail
      refine (r7Prev_c t q s (k : Int) _).mono ?_; rintro e w11 ⟨rfl, hb⟩; have W11 := hidp (W10.out.keep hb); clear hb W10
      obtain ⟨x0, x1, x2⟩ := W11.out.held.three
      go_wp2_with fail
      refine (rPutA hn _ 0 (by omega) W11.out.at_).mono ?_; rintro e w12 ⟨rfl, h1, h2⟩; have W12 := hidp (W11.out.call h1 h2); clear h1 h2 W11
      obtain ⟨x0, x1, x2⟩ := W12.out.held.three
      go_wp2
      go_end0
      exact ⟨rfl, by rw [HE.out, HN.out]; exact W12.out.fin⟩
theorem rkPull_c (hn : n < 2 ^ 40) (hq : q ≤ 2 ^ 31) (p : Int) (h : (rOb base b n all K).At w0 A G st w) :
    Calls Tryz.prog 50 #[.pointer (some ⟨b, 0, none⟩), .agg #[.int .i64 t, .int .i64 q, .int .i64 s], .int .i64 hd, .int .i64 p] w fun e w' => e = .returned (.tuple #[]) ∧ (rOb base b n all K).At w0 A G (pullI n K t q s hd p st) w' ∧ Stay G w w' := by
  cases hp : pgB q p with
  | false => rw [(pgB_none hp).2]; exact rkPull_no p hp h
  | true =>
    have h1 := (pgB_iff _ _).1 hp
    obtain ⟨k, rfl⟩ := Int.eq_ofNat_of_zero_le h1.1
    rw [(pgB_nat hp).2]
    exact rkPull_yes hn k hp (by omega) h

end
end
end Go.Proofs.YtioolaaphbddbaaGreatDoor
