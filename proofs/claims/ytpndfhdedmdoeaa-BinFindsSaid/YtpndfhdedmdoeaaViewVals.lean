/-
  Views: contract of Vals.
-/
import Derived.Test.YtpndfhdedmdoeaaViewMake
import Derived.Deep.RegionHeld3
namespace Go.Proofs.Ytpndfhdedmdoeaa
open Go.ChangeShapes Go.WideShapes Go.ChangeAt Go.RowKit Go.Maps
set_option linter.unusedVariables false
set_option maxRecDepth 100000
set_option linter.unusedSimpArgs false

def toPV (l : List (Nat × Nat)) : List PairV := l.map fun p => ⟨(p.1 : Int), p.2⟩
theorem toPV_at {l : List (Nat × Nat)} {k : Nat} (h : k < l.length) : (toPV l)[k]? = some ⟨(cellW l k : Int), atW l k⟩ := by
  unfold toPV
  rw [List.getElem?_map, List.getElem?_eq_getElem h]
  simp [cellW, atW, List.getD, List.getElem?_eq_getElem h]
theorem pairs_of_own {w : World} {base m cap : Nat} {B : Option Addr} {l : List (Nat × Nat)} (h : w.ownsRow base 86 2 (.slice B m cap) m (prVs l)) (hl : l.length = m) : PairVs w B (toPV l) := fun i a ha => by
  have hi : i < l.length := by
    rcases Nat.lt_or_ge i l.length with h1 | h1
    · exact h1
    · rw [List.getElem?_eq_none (by simpa [toPV] using h1)] at ha; cases ha
  rw [toPV_at hi] at ha
  injection ha with ha
  subst ha
  obtain ⟨ad, e1, e2, e3⟩ := (Reads.of_own h).2 (by omega)
  obtain ⟨p1, p2⟩ := prVs_at l i hi
  refine ⟨ad, e1, e2, fun j u hu => ?_⟩
  unfold PairV.cells at hu
  rcases j with _ | _ | j
  · simp at hu; subst hu; exact e3 _ _ p1
  · simp at hu; subst hu; exact e3 _ _ p2
  · simp at hu

theorem valF_upd (f : Nat → Nat) (i v j : Nat) : updF (valF f) i (.int .u32 (v : Int)) j = valF (updF f i v) j := by
  by_cases e : j = i
  · subst e; simp [valF, updF_same]
  · simp [valF, updF_other _ _ e]
theorem vown_caps {w : World} {base size n c m : Nat} {e : TypeId} {A : Option Addr} {xs : List Value} (h : w.ownsRow base e size (.slice A n c) m xs) : m ≤ c ∧ c ≤ maxLen := by
  rcases h.2 with ⟨h1, h2⟩ | ⟨g', cap', cur, h1, _, _, h2, h3, _⟩
  · injection h1 with _ _ h1; subst h1; omega
  · injection h1 with _ _ h1; subst h1; exact ⟨h2, h3⟩

theorem behind_list (A : Option Addr) (n c : Nat) (w : World) : (method 269 60 (.slice A n c) "nacre/view.behind").run Try.prog w = .ok (147, .slice A n c) w := by kernel_rfl
end Go.Proofs.Ytpndfhdedmdoeaa
