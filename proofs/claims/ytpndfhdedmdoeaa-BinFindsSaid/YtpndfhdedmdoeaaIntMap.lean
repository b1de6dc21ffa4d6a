/-
  Maps with ints as keys: a set (SetIs), and one of integers (NumIs).
-/
import Derived.Test.YtpndfhdedmdoeaaTurns
namespace Go.Proofs.Ytpndfhdedmdoeaa
open Go.ChangeShapes Go.WideShapes Go.ChangeAt Go.RowKit Go.Maps
set_option linter.unusedVariables false
set_option maxRecDepth 100000

theorem intKey1 : Keyed Try.prog 3 := int_keyed Try.underlying3
def kInt (c : Int) : Lit := .int .i64 c
theorem kInt_ne {c d : Int} (h : c ≠ d) : kInt c ≠ kInt d := fun e => by
  unfold kInt at e
  injection e with _ e
  exact h e
theorem kInt_key (c : Int) : WideAt.IsKeyLit (kInt c) := by unfold kInt; trivial
theorem kInt_of {c : Int} (h : (Lit.int .i64 c).wf = true) : keyOf Try.prog 3 (.int .i64 c) = some (kInt c) := keyOf_int_mk Try.underlying3 h
theorem wf_nat {n : Nat} (h : n < 2 ^ 63) : (Lit.int .i64 (n : Int)).wf = true := by
  simp only [Lit.wf, Bool.and_eq_true, IntKind.min, IntKind.max, IntKind.signed, IntKind.bits]
  simp
  omega
theorem wf_u32 {n : Nat} (h : n < 2 ^ 32) : (Lit.int .u32 (n : Int)).wf = true := by
  simp only [Lit.wf, Bool.and_eq_true, IntKind.min, IntKind.max, IntKind.signed, IntKind.bits]
  simp
  omega

/-- a set of the numbers of a list -/
structure SetIs (D : DataW Unit) (l : List Nat) : Prop where
  tidy : Tidy D
  has : ∀ c : Int, Maps.has D (kInt c) = decide (0 ≤ c ∧ c.toNat ∈ l)
theorem SetIs.none : SetIs (.map []) [] := ⟨tidy_empty, fun c => by simp [Maps.has]⟩
theorem SetIs.put {D : DataW Unit} {l : List Nat} (h : SetIs D l) (i : Nat) : SetIs (D.put (kInt (i : Int)) (.agg [])) (l ++ [i]) := by
  refine ⟨h.tidy.put (kInt_key _) _, fun c => ?_⟩
  by_cases e : c = i
  · subst e
    rw [has_put_same h.tidy.isMap (kInt_key _)]
    simp
  · rw [has_put_other (kInt_ne e), h.has c, decide_eq_decide]
    constructor
    · rintro ⟨h1, h2⟩
      exact ⟨h1, List.mem_append_left _ h2⟩
    · rintro ⟨h1, h2⟩
      simp at h2
      rcases h2 with h2 | h2
      · exact ⟨h1, h2⟩
      · omega

/-- a map of numbers of a kind by numbers -/
structure NumIs (D : DataW Unit) (q : IntKind) (K : Nat → Option Nat) : Prop where
  tidy : Tidy D
  has : ∀ c : Int, Maps.has D (kInt c) = (decide (0 ≤ c) && (K c.toNat).isSome)
  at_ : ∀ (i v : Nat), K i = some v → D.atKey (kInt (i : Int)) (.lit (.int q 0)) = .lit (.int q (v : Int))
theorem NumIs.none (q : IntKind) : NumIs (.map []) q (fun _ => none) := ⟨tidy_empty, fun c => by simp [Maps.has], fun i v h => by cases h⟩
theorem NumIs.put {D : DataW Unit} {q : IntKind} {K : Nat → Option Nat} (h : NumIs D q K) (i v : Nat) : NumIs (D.put (kInt (i : Int)) (.lit (.int q (v : Int)))) q (updF K i (some v)) := by
  refine ⟨h.tidy.put (kInt_key _) _, fun c => ?_, fun j u hj => ?_⟩
  · by_cases e : c = i
    · subst e
      rw [has_put_same h.tidy.isMap (kInt_key _)]
      simp [updF_same]
    · rw [has_put_other (kInt_ne e), h.has c]
      by_cases h0 : 0 ≤ c
      · have : c.toNat ≠ i := by omega
        rw [updF_other _ _ this]
      · simp [h0]
  · by_cases e : j = i
    · subst e
      rw [updF_same] at hj
      injection hj with hj
      subst hj
      exact atKey_put_same h.tidy.isMap (kInt_key _) _ _
    · rw [updF_other _ _ e] at hj
      rw [atKey_put_other (kInt_ne (by omega))]
      exact h.at_ j u hj
theorem NumIs.congr {D : DataW Unit} {q : IntKind} {K K' : Nat → Option Nat} (h : NumIs D q K) (e : ∀ i, K i = K' i) : NumIs D q K' := by
  obtain rfl : K = K' := funext e
  exact h
end Go.Proofs.Ytpndfhdedmdoeaa
