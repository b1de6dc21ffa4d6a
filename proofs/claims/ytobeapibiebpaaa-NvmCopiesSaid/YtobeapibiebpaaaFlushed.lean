/-
  Keys of a map that are structs of two ints (nvm.flushed): what they read as.
-/
import Derived.Test.YtobeapibiebpaaaTurns
import Derived.DeepKeys4
namespace Go.Proofs.Ytobeapibiebpaaa
open Go.ChangeShapes Go.WideShapes Go.ChangeAt Go.RowKit Go.Maps
set_option linter.unusedVariables false

def flV (a b : Int) : Value := .agg #[.int .i64 a, .int .i64 b]
def flL (a b : Int) : Lit := .string (keyBytes [.int .i64 a, .int .i64 b])
theorem fl_row : 58 < Try.prog.types.size := of_decide_eq_true (by kernel_rfl)
theorem fl_size : ∃ d, Try.prog.types.size = d + 1 := ⟨Try.prog.types.size - 1, by have := fl_row; omega⟩
theorem fl_keyType : Try.prog.keyType 58 = true := by kernel_rfl
theorem fl_cells : Try.prog.cellsOf 58 = 2 := by kernel_rfl
theorem int_cells : Try.prog.cellsOf 3 = 1 := by kernel_rfl
theorem flKey : Keyed Try.prog 58 :=
  Keyed.of_law (deep_law_laid (m := 3) (by kernel_rfl) (by decide) fl_row (by kernel_rfl) (by kernel_rfl))
theorem int_lits {d : Nat} {x : Value} {l : List Lit} (h : Try.prog.keyLits (d + 1) 3 [x] = some l) : ∃ a : Int, x = .int .i64 a ∧ (Lit.int .i64 a).wf = true ∧ l = [.int .i64 a] := by
  unfold Program.keyLits at h
  rw [Try.underlying3] at h
  cases x <;> simp at h
  obtain ⟨⟨rfl, hw⟩, rfl⟩ := h
  exact ⟨_, rfl, hw, rfl⟩
theorem fl_lits {d : Nat} (cs : List Value) (L : List Lit) (h : Try.prog.keyLits (d + 2) 58 cs = some L) : ∃ a b : Int, cs = [.int .i64 a, .int .i64 b] ∧ (Lit.int .i64 a).wf = true ∧ (Lit.int .i64 b).wf = true ∧ L = [.int .i64 a, .int .i64 b] := by
  unfold Program.keyLits at h
  rw [Try.underlying58] at h
  simp only [fl_cells] at h
  split at h
  case isFalse => cases h
  case isTrue hc =>
    match cs, hc.1 with
    | [x, y], _ =>
      simp [int_cells, Option.bind_eq_some_iff] at h
      obtain ⟨l1, h1, l2, ⟨l3, h2, rfl⟩, rfl⟩ := h
      obtain ⟨a, rfl, ha, rfl⟩ := int_lits h1
      obtain ⟨b, rfl, hb, rfl⟩ := int_lits h2
      exact ⟨a, b, rfl, ha, hb, rfl⟩
theorem fl_lits_mk {d : Nat} {a b : Int} (ha : (Lit.int .i64 a).wf = true) (hb : (Lit.int .i64 b).wf = true) : Try.prog.keyLits (d + 2) 58 [.int .i64 a, .int .i64 b] = some [.int .i64 a, .int .i64 b] := by
  unfold Program.keyLits
  rw [Try.underlying58]
  simp [fl_cells, int_cells, Program.keyLits, Try.underlying3, ha, hb]
theorem fl_key {a b : Int} (ha : (Lit.int .i64 a).wf = true) (hb : (Lit.int .i64 b).wf = true) : keyOf Try.prog 58 (flV a b) = some (flL a b) := by
  obtain ⟨d, hd⟩ := fl_size
  rw [keyOf, Try.underlying58]
  simp only [fl_keyType, hd, flV, Value.cells]
  rw [fl_lits_mk ha hb]
  simp [Value.formed, Try.underlying58, fl_cells, flL]
theorem fl_inv {key : Value} {kl : Lit} (h : keyOf Try.prog 58 key = some kl) : ∃ x : Int × Int, key = flV x.1 x.2 ∧ (Lit.int .i64 x.1).wf = true ∧ (Lit.int .i64 x.2).wf = true ∧ kl = flL x.1 x.2 := by
  obtain ⟨d, hd⟩ := fl_size
  obtain ⟨xs, L, rfl, hl, rfl⟩ := keyOf_top (by kernel_rfl) h
  rw [hd] at hl
  obtain ⟨a, b, hx, ha, hb, rfl⟩ := fl_lits _ _ hl
  refine ⟨(a, b), ?_, ha, hb, rfl⟩
  obtain ⟨l⟩ := xs
  simp at hx
  subst hx
  rfl
theorem fl_inj {a b c d : Int} (ha : (Lit.int .i64 a).wf = true) (hb : (Lit.int .i64 b).wf = true) (hc : (Lit.int .i64 c).wf = true) (hd : (Lit.int .i64 d).wf = true) (h : flL a b = flL c d) : a = c ∧ b = d := by
  have h1 := flKey.inj (fl_key ha hb) ((fl_key hc hd).trans (by rw [h]))
  unfold flV at h1
  simpa using h1

/-- a map of what is pending: of each who (from 0 to 16) some of n lines -/
structure PendIs (D : DataW Unit) (n : Nat) (p : Int → Nat → Bool) : Prop where
  tidy : Tidy D
  has : ∀ a b : Int, (Lit.int .i64 a).wf = true → (Lit.int .i64 b).wf = true → (Maps.has D (flL a b) = true ↔ ∃ l : Nat, b = l ∧ p a l = true)
  low : ∀ a l, p a l = true → 0 ≤ a ∧ a ≤ 16 ∧ l < n

theorem wf_small {a : Int} (h1 : -9223372036854775808 ≤ a) (h2 : a ≤ 9223372036854775807) : (Lit.int .i64 a).wf = true := by
  simp only [Lit.wf, Bool.and_eq_true, IntKind.min, IntKind.max, IntKind.signed, IntKind.bits]
  simp
  omega
theorem fl_isKey (a b : Int) : WideAt.IsKeyLit (flL a b) := by unfold flL; trivial
def putP (p : Int → Nat → Bool) (a : Int) (l : Nat) : Int → Nat → Bool := fun x y => (x == a && y == l) || p x y
def delP (p : Int → Nat → Bool) (a : Int) (l : Nat) : Int → Nat → Bool := fun x y => !(x == a && y == l) && p x y

section
variable {D : DataW Unit} {n : Nat} {p : Int → Nat → Bool}
theorem PendIs.none (n : Nat) : PendIs (.map []) n (fun _ _ => false) := ⟨tidy_empty, fun a b _ _ => by simp [Maps.has], fun a l h => by cases h⟩
theorem PendIs.put (h : PendIs D n p) {a : Int} {l : Nat} (h0 : 0 ≤ a) (h16 : a ≤ 16) (hl : l < n) (hn : n < 2 ^ 62) : PendIs (D.put (flL a (l : Int)) (.agg [])) n (putP p a l) := by
  refine ⟨h.tidy.put (fl_isKey _ _) _, fun x y hx hy => ?_, fun x y hxy => ?_⟩
  · by_cases e : flL x y = flL a (l : Int)
    · obtain ⟨rfl, rfl⟩ := fl_inj hx hy (wf_small (by omega) (by omega)) (wf_small (by omega) (by omega)) e
      rw [has_put_same h.tidy.isMap (fl_isKey _ _)]
      exact ⟨fun _ => ⟨l, rfl, by simp [putP]⟩, fun _ => rfl⟩
    · rw [has_put_other e, h.has x y hx hy]
      constructor
      · rintro ⟨m, rfl, hm⟩
        exact ⟨m, rfl, by simp [putP, hm]⟩
      · rintro ⟨m, rfl, hm⟩
        refine ⟨m, rfl, ?_⟩
        unfold putP at hm
        rcases Bool.or_eq_true_iff.1 hm with h1 | h1
        · simp at h1
          obtain ⟨rfl, rfl⟩ := h1
          exact absurd rfl e
        · exact h1
  · unfold putP at hxy
    rcases Bool.or_eq_true_iff.1 hxy with h1 | h1
    · simp at h1
      obtain ⟨rfl, rfl⟩ := h1
      exact ⟨h0, h16, hl⟩
    · exact h.low x y h1
theorem PendIs.del (h : PendIs D n p) {a : Int} {l : Nat} (ha : (Lit.int .i64 a).wf = true) (hl : l < 2 ^ 62) : PendIs (D.del (flL a (l : Int))) n (delP p a l) := by
  refine ⟨h.tidy.del _, fun x y hx hy => ?_, fun x y hxy => ?_⟩
  · by_cases e : flL x y = flL a (l : Int)
    · obtain ⟨rfl, rfl⟩ := fl_inj hx hy ha (wf_small (by omega) (by omega)) e
      rw [has_del_same]
      constructor
      · intro h1; cases h1
      · rintro ⟨m, hm, h1⟩
        obtain rfl : l = m := by omega
        simp [delP] at h1
    · rw [has_del_other e, h.has x y hx hy]
      constructor
      · rintro ⟨m, rfl, hm⟩
        refine ⟨m, rfl, ?_⟩
        unfold delP
        rw [hm, Bool.and_true, Bool.not_eq_true']
        by_cases h1 : x = a ∧ m = l
        · obtain ⟨rfl, rfl⟩ := h1
          exact absurd rfl e
        · simp; omega
      · rintro ⟨m, rfl, hm⟩
        unfold delP at hm
        exact ⟨m, rfl, (Bool.and_eq_true_iff.1 hm).2⟩
  · unfold delP at hxy
    exact h.low x y (Bool.and_eq_true_iff.1 hxy).2
end
end Go.Proofs.Ytobeapibiebpaaa
