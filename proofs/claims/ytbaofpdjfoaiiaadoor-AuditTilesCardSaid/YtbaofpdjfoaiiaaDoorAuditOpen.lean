/-
  The arguments of the laws of layer 12, opened: values that are a right configuration's cells, or not.
-/
import Derived.Test.YtbaofpdjfoaiiaaDoorAuditHeapOf
import Derived.Test.YtbaofpdjfoaiiaaDoorOpenConf
import Derived.Test.YtbaofpdjfoaiiaaDoorLaid
namespace Go.Proofs.YtbaofpdjfoaiiaaDoor
open Go.ChangeShapes Go.WideShapes Go.ChangeAt Go.RowKit
set_option linter.unusedVariables false

theorem slots12_laid {W : World} {laid : List (String × DataW Unit)} (h : laidMetH Tryd.prog laid W)
    (hf : (laid.filter fun x => x.1 == "nacre/class.slots") = [("nacre/class.slots", Lib.tabData .i64 [32, 21, 16, 10, 8, 5, 4, 3, 2])]) : SlotsLaid W := by
  have h1 := tab_of_laid h hf (g := 0) (t := 86) (e := 3) (n := 9) (by kernel_rfl) (by kernel_rfl) Tryd.underlying86 Tryd.underlying3 (by kernel_rfl) (by kernel_rfl)
  intro k hk
  rw [h1 k (by simpa using hk)]
  have : ∀ j, j < 9 → ([32, 21, 16, 10, 8, 5, 4, 3, 2] : List Int).getD j 0 = ((slotN j : Nat) : Int) := by decide
  rw [this k hk]
theorem told_tiled {H : AuH} {m : Nat} (h : H.Told m true) : H.Tiled := by
  rcases h with ⟨_, _, h⟩ | ⟨h, _⟩
  · exact h 1 (by omega)
  · cases h
theorem heap_of (W : World) (t q s : Int) (A : Option Addr) (c : Nat) (vals : List Nat) (hnc : vals.length ≤ c) (hcm : c ≤ maxLen) (h32 : ∀ x ∈ vals, x < 2 ^ 32) (hR : Reads W W.heap.size 1 A vals.length (u32Vs vals)) (h : lC t q s ≠ 0 ∧ (vals.length : Int) = lC t q s) :
    ∃ (H : AuH) (ad : Addr), t = H.t ∧ q = H.p ∧ s = H.s ∧ A = some ad ∧ (∀ i, H.V i = vals.getD i 0) ∧ HeapV H vals.length c ∧ IsVals W ad vals.length H.V := by
  cases hr : rightB t q s
  · exact absurd (lay_no hr).5 h.1
  · have hn := (rightB_iff t q s).1 hr
    have hl := (lay_yes hr).5
    have hlen : 0 < vals.length := by have := h.2; rw [hl] at this; omega
    obtain ⟨ad, rfl, hb, hc⟩ := hR.2 hlen
    have hx : ∀ i, i < vals.length → vals[i]? = some (vals.getD i 0) := fun i hi => by simp [List.getD, List.getElem?_eq_getElem hi]
    refine ⟨⟨t.toNat, q.toNat, s.toNat, fun i => vals.getD i 0⟩, ad, by show t = _; simp; omega, by show q = _; simp; omega, by show s = _; simp; omega, rfl, fun i => rfl, ⟨?_, ?_, hnc, hcm, fun i hi => ?_⟩, hb, fun i hi => ?_⟩
    · show rightB ((t.toNat : Nat) : Int) ((q.toNat : Nat) : Int) ((s.toNat : Nat) : Int) = true
      rw [show ((t.toNat : Nat) : Int) = t by omega, show ((q.toNat : Nat) : Int) = q by omega, show ((s.toNat : Nat) : Int) = s by omega]
      exact hr
    · show vals.length = 30 + 4 * t.toNat + 6 * q.toNat
      have := h.2
      rw [hl] at this
      omega
    · exact h32 _ (List.mem_of_getElem? (hx i hi))
    · refine hc i _ ?_
      unfold u32Vs
      rw [List.getElem?_map, hx i hi]
      rfl
theorem heap_or (W : World) (t q s : Int) (A : Option Addr) (c : Nat) (vals : List Nat) (hnc : vals.length ≤ c) (hcm : c ≤ maxLen) (h32 : ∀ x ∈ vals, x < 2 ^ 32) (hR : Reads W W.heap.size 1 A vals.length (u32Vs vals)) (hT : SlotsLaid W) :
    (∃ m, CheckIs W t q s A vals.length c m false) ∨ ∃ (H : AuH) (ad : Addr) (m : Nat) (b : Bool), t = H.t ∧ q = H.p ∧ s = H.s ∧ A = some ad ∧ HeapV H vals.length c ∧ IsVals W ad vals.length H.V ∧ H.Told m b ∧ CheckIs W H.t H.p H.s (some ad) vals.length c m b := by
  by_cases h : lC t q s ≠ 0 ∧ (vals.length : Int) = lC t q s
  · obtain ⟨H, ad, ht, hp, hs, ha, _, HV, hv⟩ := heap_of W t q s A c vals hnc hcm h32 hR h
    obtain ⟨m, b, hto⟩ := H.told_is
    exact .inr ⟨H, ad, m, b, ht, hp, hs, ha, HV, hv, hto, checkIs_yes HV ad W hv hT hto⟩
  · exact .inl ⟨1, checkIs_no W t q s A vals.length c hnc hcm h⟩
end Go.Proofs.YtbaofpdjfoaiiaaDoor
