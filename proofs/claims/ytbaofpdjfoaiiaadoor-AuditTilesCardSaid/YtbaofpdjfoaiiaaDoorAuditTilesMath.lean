/-
  The parts of a heap stand one behind the other.
-/
import Derived.Test.YtbaofpdjfoaiiaaDoorAuditLive
namespace Go.Proofs.YtbaofpdjfoaiiaaDoor
open Go.ChangeShapes Go.WideShapes Go.ChangeAt Go.RowKit
set_option linter.unusedVariables false

/-- parts stand one behind the other, from a to b -/
def Contig : Int → List (Int × Int × Int) → Int → Prop
  | a, [], b => a = b
  | a, x :: l, b => (x.2.1 = a ∧ 1 ≤ x.2.2 ∧ 1 ≤ x.1 ∧ x.1 ≤ 5) ∧ Contig (a + x.2.2) l b
theorem Contig.app : ∀ {l : List (Int × Int × Int)} {a b c : Int} {m : List (Int × Int × Int)}, Contig a l b → Contig b m c → Contig a (l ++ m) c
  | [], a, b, c, m, h, h' => by
    have : a = b := h
    subst this
    exact h'
  | x :: l, a, b, c, m, h, h' => ⟨h.1, Contig.app h.2 h'⟩
theorem Contig.one {k a z : Int} (hk : 1 ≤ k ∧ k ≤ 5) (hz : 1 ≤ z) : Contig a [(k, a, z)] (a + z) := ⟨⟨rfl, hz, hk.1, hk.2⟩, rfl⟩
theorem Contig.le : ∀ {l : List (Int × Int × Int)} {a b : Int}, Contig a l b → a ≤ b
  | [], a, b, h => by have : a = b := h; omega
  | x :: l, a, b, h => by have := Contig.le h.2; have := h.1.2.1; omega
theorem Contig.at_ : ∀ {l : List (Int × Int × Int)} {a b : Int} {i : Nat} {x : Int × Int × Int}, Contig a (l.drop i) b → l[i]? = some x → (x.2.1 = a ∧ 1 ≤ x.2.2 ∧ 1 ≤ x.1 ∧ x.1 ≤ 5) ∧ Contig (a + x.2.2) (l.drop (i + 1)) b := by
  intro l a b i x h hx
  have hi : i < l.length := by
    rcases Nat.lt_or_ge i l.length with h1 | h1
    · exact h1
    · rw [List.getElem?_eq_none h1] at hx; cases hx
  rw [List.drop_eq_getElem_cons hi] at h
  have e : l[i] = x := by rw [List.getElem?_eq_getElem hi] at hx; injection hx
  rw [e] at h
  exact h
namespace AuH
variable {H : AuH}
theorem first_add (q m : Nat) : H.first q + (m : Int) * (H.pg : Int) = H.first (q + m) := by
  unfold first
  rw [← Int.add_mul]
  congr 1
  push_cast
  omega
theorem slot_kd (q i : Nat) : 1 ≤ (H.slotPart q i).1 ∧ (H.slotPart q i).1 ≤ 5 := by
  show 1 ≤ ((slotKd _ _ i : Nat) : Int) ∧ ((slotKd _ _ i : Nat) : Int) ≤ 5
  unfold slotKd
  split
  · decide
  · split <;> decide
theorem slots_contig (q : Nat) (hz : 1 ≤ H.zs q) : ∀ k, Contig (H.first q) (H.slotsTo q k) (H.first q + (k : Int) * (H.zs q : Int))
  | 0 => by
    have e : H.first q + ((0 : Nat) : Int) * (H.zs q : Int) = H.first q := by simp
    rw [e]
    exact rfl
  | k + 1 => by
    rw [slotsTo_succ]
    have e : H.first q + ((k + 1 : Nat) : Int) * (H.zs q : Int) = (H.first q + (k : Int) * (H.zs q : Int)) + (H.zs q : Int) := by
      push_cast
      rw [Int.add_mul]
      omega
    rw [e]
    exact (slots_contig q hz k).app ⟨⟨rfl, by show 1 ≤ (H.zs q : Int); omega, (slot_kd q k).1, (slot_kd q k).2⟩, rfl⟩
theorem partsAt_contig {n c : Nat} (HV : HeapV H n c) {q : Nat} (hk : H.K q ≠ 0) : Contig (H.first q) (H.partsAt q) (H.first (H.nx q)) := by
  have hg := pg_le HV
  have hs := HV.nums
  have hkc := H.K_cases q
  have hnx : H.first (H.nx q) = H.first q + (H.ln q : Int) * (H.pg : Int) := (first_add q (H.ln q)).symm
  have hpos : ∀ m : Nat, 1 ≤ m → 1 ≤ (m : Int) * (H.pg : Int) := fun m hm => by
    have h1 : 1 * 1 ≤ m * H.pg := Nat.mul_le_mul hm (by omega)
    have h2 : ((m * H.pg : Nat) : Int) = (m : Int) * (H.pg : Int) := by push_cast; rfl
    rw [← h2]
    omega
  rw [hnx]
  unfold partsAt
  by_cases h1 : H.K q = 1
  · rw [if_pos h1]
    exact Contig.one (by omega) (hpos _ (by omega))
  · rw [if_neg h1]
    by_cases h2 : H.K q = 2
    · rw [if_pos h2]
      exact Contig.one (by omega) (hpos _ (by omega))
    · have h3 : H.K q = 3 := by omega
      have hl : H.ln q = 1 := by omega
      rw [if_neg h2, if_pos h3, hl]
      obtain ⟨kc, hkc2⟩ : ∃ kc : Nat, H.Cl q = kc := ⟨(H.Cl q).toNat, by omega⟩
      have hf := size_facts (s := (H.s : Int)) (by omega) (k := kc) (by omega)
      have hz : H.zs q = sizeN (H.s : Int) (kc : Int) := by unfold zs; rw [hkc2]
      have hsl : H.sl q = slotN kc := by unfold sl; rw [hkc2, slotI_nat]
      have hfit : H.sl q * H.zs q ≤ H.pg := by rw [hz, hsl, hg.2.2.1, Nat.mul_comm]; exact hf.2.2.1
      have hc := slots_contig (H := H) q (by rw [hz]; omega) (H.sl q)
      have e1 : (H.sl q : Int) * (H.zs q : Int) = ((H.sl q * H.zs q : Nat) : Int) := by push_cast; rfl
      rw [e1] at hc
      unfold slack
      have e2 : H.first q + ((1 : Nat) : Int) * (H.pg : Int) = H.first q + (H.pg : Int) := by simp
      rw [e2]
      by_cases h4 : H.sl q * H.zs q < H.pg
      · rw [if_pos h4]
        have := hc.app (Contig.one (k := 5) (a := H.first q + ((H.sl q * H.zs q : Nat) : Int)) (z := (H.pg : Int) - ((H.sl q * H.zs q : Nat) : Int)) (by omega) (by omega))
        have e3 : H.first q + ((H.sl q * H.zs q : Nat) : Int) + ((H.pg : Int) - ((H.sl q * H.zs q : Nat) : Int)) = H.first q + (H.pg : Int) := by omega
        rwa [e3] at this
      · rw [if_neg h4, List.append_nil]
        have e3 : ((H.sl q * H.zs q : Nat) : Int) = (H.pg : Int) := by omega
        rwa [e3] at hc
theorem parts_contig {n c : Nat} (HV : HeapV H n c) (ht : H.Tiled) : Contig (H.pg : Int) H.parts (H.first H.p) := by
  have h : ∀ x, H.At x → Contig (H.pg : Int) (catTo H.partsAt x) (H.first x) := by
    intro x hx
    induction hx with
    | zero =>
      show (H.pg : Int) = H.first 0
      unfold first
      simp
    | step ha hc ih =>
      have hk := (H.can_iff _).1 hc
      rw [ht.cat ha hk.1 (fun q _ h => partsAt_no h)]
      exact ih.app (partsAt_contig HV hk.2.1)
  exact h _ ht.1
end AuH
/-- the block that comes next among the live ones -/
theorem block_at {L : List (Int × Int × Int)} {i : Nat} {k a z : Int} (h : L[i]? = some (k, a, z)) (hk : k = 2) : (blocksOf L)[(blocksOf (L.take i)).length]? = some (a, z) := by
  have hi : i < L.length := by
    rcases Nat.lt_or_ge i L.length with h1 | h1
    · exact h1
    · rw [List.getElem?_eq_none h1] at h; cases h
  have e : L = L.take i ++ ([(k, a, z)] ++ L.drop (i + 1)) := by
    conv => lhs; rw [← List.take_append_drop i L]
    congr 1
    rw [List.drop_eq_getElem_cons hi]
    rw [List.getElem?_eq_getElem hi] at h
    injection h with h
    rw [h]
    rfl
  conv => lhs; rw [e]
  rw [blocksOf_app, blocksOf_app, blocksOf_yes (x := (k, a, z)) hk]
  rw [List.getElem?_append_right (by rw [← e]; exact Nat.le_refl _)]
  rw [← e]
  simp
end Go.Proofs.YtbaofpdjfoaiiaaDoor
