/-
  The sizes of small blocks: numbers only.
-/
import Derived.Test.YthiobfghanlelaaYConf
import Derived.Test.YthiobfghanlelaaYInfo
namespace Go.Proofs.Ythiobfghanlelaa
set_option linter.unusedVariables false

def slotN (k : Nat) : Nat := ([32, 21, 16, 10, 8, 5, 4, 3, 2] : List Nat).getD k 0
/-- how many slots a slab of the class k has -/
def slotI (k : Int) : Nat := if 0 ≤ k then slotN k.toNat else 0
theorem slotI_nat (k : Nat) : slotI (k : Int) = slotN k := by unfold slotI; simp
theorem slotN_out {k : Nat} (h : 9 ≤ k) : slotN k = 0 := by unfold slotN; simp [List.getD, List.getElem?_eq_none (show ([32, 21, 16, 10, 8, 5, 4, 3, 2] : List Nat).length ≤ k by simpa using h)]
theorem slotI_out {k : Int} (h : k < 0 ∨ 9 ≤ k) : slotI k = 0 := by
  unfold slotI
  split
  · exact slotN_out (by omega)
  · rfl
theorem slotN_in {k : Nat} (h : k < 9) : 2 ≤ slotN k ∧ slotN k ≤ 32 := by
  have : ∀ j, j < 9 → 2 ≤ slotN j ∧ slotN j ≤ 32 := by decide
  exact this k h
theorem slotI_le (k : Int) : slotI k ≤ 32 := by
  by_cases h : 0 ≤ k ∧ k < 9
  · have := slotN_in (k := k.toNat) (by omega)
    unfold slotI; rw [if_pos h.1]; omega
  · rw [slotI_out (by omega)]; omega
theorem slotI_zero {k : Int} : slotI k = 0 ↔ k < 0 ∨ 9 ≤ k := by
  constructor
  · intro h
    by_cases hk : 0 ≤ k ∧ k < 9
    · have := slotN_in (k := k.toNat) (by omega)
      unfold slotI at h; rw [if_pos hk.1] at h; omega
    · omega
  · exact slotI_out

/-- how many bytes a page of the shift s has -/
def pageS (s : Int) : Nat := pageN 1 4 s
theorem pageS_no {s : Int} (h : s < 10 ∨ 20 < s) : pageS s = 0 := page_no (rightB_not (by omega))
theorem pageS_yes {s : Int} (h : 10 ≤ s ∧ s ≤ 20) : pageS s = 2 ^ s.toNat := page_yes (rightB_mk (by omega))
theorem pageS_le (s : Int) : pageS s ≤ 1048576 := by
  by_cases h : 10 ≤ s ∧ s ≤ 20
  · rw [pageS_yes h]
    exact (pow_bounds _ (by omega)).2
  · rw [pageS_no (by omega)]; omega
theorem pageS_zero {s : Int} : pageS s = 0 ↔ s < 10 ∨ 20 < s := by
  constructor
  · intro h
    by_cases hs : 10 ≤ s ∧ s ≤ 20
    · rw [pageS_yes hs] at h
      have := (pow_bounds s.toNat (by omega)).1
      omega
    · omega
  · exact pageS_no

/-- how many bytes a slot of the class k has -/
def sizeN (s k : Int) : Nat := pageS s / slotI k - pageS s / slotI k % 16
theorem sizeN_le (s k : Int) : sizeN s k ≤ 1048576 := by
  have h1 := pageS_le s
  have h2 := Nat.div_le_self (pageS s) (slotI k)
  unfold sizeN
  generalize pageS s / slotI k = q at *
  omega
theorem sizeN_noclass {s k : Int} (h : k < 0 ∨ 9 ≤ k) : sizeN s k = 0 := by unfold sizeN; rw [slotI_out h]; simp
theorem sizeN_noshift {s k : Int} (h : s < 10 ∨ 20 < s) : sizeN s k = 0 := by unfold sizeN; rw [pageS_no h]; simp

/-- all that the page promises of the sizes, shift by shift, class by class -/
theorem sizes_all : ∀ s : Nat, s < 11 → ∀ k : Nat, k < 9 →
    let z := 2 ^ (s + 10) / slotN k - 2 ^ (s + 10) / slotN k % 16
    z % 16 = 0 ∧ 16 ≤ z ∧ z * slotN k ≤ 2 ^ (s + 10) ∧ z ≤ 2 ^ (s + 10) / 2 ∧ (k = 8 → z = 2 ^ (s + 10) / 2) ∧
      (0 < k → 2 ^ (s + 10) / slotN (k - 1) - 2 ^ (s + 10) / slotN (k - 1) % 16 < z) := by decide +kernel

theorem size_at {s : Int} (h : 10 ≤ s ∧ s ≤ 20) (k : Nat) : sizeN s (k : Int) = 2 ^ (s.toNat - 10 + 10) / slotN k - 2 ^ (s.toNat - 10 + 10) / slotN k % 16 := by
  unfold sizeN
  rw [pageS_yes h, slotI_nat, show s.toNat - 10 + 10 = s.toNat by omega]
theorem size_facts {s : Int} (h : 10 ≤ s ∧ s ≤ 20) {k : Nat} (hk : k < 9) :
    sizeN s (k : Int) % 16 = 0 ∧ 16 ≤ sizeN s (k : Int) ∧ sizeN s (k : Int) * slotN k ≤ pageS s ∧ sizeN s (k : Int) ≤ pageS s / 2 ∧ (k = 8 → sizeN s (k : Int) = pageS s / 2) ∧
      (0 < k → sizeN s ((k - 1 : Nat) : Int) < sizeN s (k : Int)) := by
  have := sizes_all (s.toNat - 10) (by omega) k hk
  simp only [] at this
  rw [size_at h k, size_at h (k - 1), pageS_yes h, show s.toNat = s.toNat - 10 + 10 by omega]
  simpa using this
theorem size_pos {s : Int} (h : 10 ≤ s ∧ s ≤ 20) {k : Nat} (hk : k < 9) : 0 < sizeN s (k : Int) := by
  have := (size_facts h hk).2.1
  omega

/-- the class of a size: the first whose slots are as great -/
def classOf (s z : Int) : Option Nat := if z < 1 then none else (List.range 9).find? fun k => decide (z ≤ (sizeN s (k : Int) : Int))
def classK (s z : Int) : Int := match classOf s z with | some k => (k : Int) | none => 0
def classB (s z : Int) : Bool := (classOf s z).isSome
theorem class_yes {s z : Int} {k : Nat} (hz : 1 ≤ z) (hk : k < 9) (h : z ≤ (sizeN s (k : Int) : Int)) (hb : ∀ j, j < k → (sizeN s (j : Int) : Int) < z) : classOf s z = some k := by
  unfold classOf
  rw [if_neg (by omega), List.find?_range_eq_some]
  refine ⟨by simpa using h, by simpa using hk, fun j hj => ?_⟩
  have := hb j hj
  simp
  omega
theorem class_small {s z : Int} (hz : z < 1) : classOf s z = none := by unfold classOf; rw [if_pos hz]
theorem class_none {s z : Int} (h : ∀ j : Nat, j < 9 → (sizeN s (j : Int) : Int) < z) : classOf s z = none := by
  unfold classOf
  split
  · rfl
  · rw [List.find?_range_eq_none]
    intro j hj
    have := h j hj
    simp
    omega
theorem class_noshift {s z : Int} (h : s < 10 ∨ 20 < s) : classOf s z = none := by
  by_cases hz : z < 1
  · exact class_small hz
  · refine class_none fun j _ => ?_
    rw [sizeN_noshift h]
    omega
theorem class_some {s z : Int} {k : Nat} (h : classOf s z = some k) : 1 ≤ z ∧ k < 9 ∧ z ≤ (sizeN s (k : Int) : Int) ∧ ∀ j, j < k → (sizeN s (j : Int) : Int) < z := by
  unfold classOf at h
  split at h
  · cases h
  · rw [List.find?_range_eq_some] at h
    obtain ⟨h1, h2, h3⟩ := h
    refine ⟨by omega, by simpa using h2, by simpa using h1, fun j hj => ?_⟩
    have := h3 j hj
    simp at this
    omega
theorem classK_yes {s z : Int} {k : Nat} (h : classOf s z = some k) : classK s z = (k : Int) ∧ classB s z = true := by unfold classK classB; rw [h]; exact ⟨rfl, rfl⟩
theorem classK_no {s z : Int} (h : classOf s z = none) : classK s z = 0 ∧ classB s z = false := by unfold classK classB; rw [h]; exact ⟨rfl, rfl⟩
/-- there is a class just for sizes up to half a page -/
theorem classB_half {s z : Int} (h : 10 ≤ s ∧ s ≤ 20) : classB s z = decide (1 ≤ z ∧ z ≤ ((pageS s / 2 : Nat) : Int)) := by
  cases hc : classOf s z with
  | none =>
    rw [(classK_no hc).2]
    symm
    rw [decide_eq_false_iff_not]
    rintro ⟨h1, h2⟩
    have h8 := (size_facts h (k := 8) (by omega)).2.2.2.2.1 rfl
    unfold classOf at hc
    rw [if_neg (by omega), List.find?_range_eq_none] at hc
    have := hc 8 (by omega)
    rw [h8] at this
    simp at this
    omega
  | some k =>
    obtain ⟨h1, h2, h3, h4⟩ := class_some hc
    rw [(classK_yes hc).2]
    symm
    rw [decide_eq_true_iff]
    have := (size_facts h h2).2.2.2.1
    exact ⟨h1, by omega⟩

end Go.Proofs.Ythiobfghanlelaa

/-
  Addresses, slots and numbers of pages: numbers only.
-/
namespace Go.Proofs.Ythiobfghanlelaa
set_option linter.unusedVariables false

/-- is there a byte o of a page i -/
def addrB (t p s i o : Int) : Bool := rightB t p s && decide ((0 ≤ i ∧ i < p) ∧ 0 ≤ o ∧ o < (pageN t p s : Int))
/-- its address -/
def addrI (t p s i o : Int) : Int := if addrB t p s i o then (i + 1) * (pageN t p s : Int) + o else 0
/-- is a an address -/
def spotB (t p s a : Int) : Bool := decide ((pageN t p s : Int) ≤ a ∧ a - pageN t p s < (bytesN t p s : Int))
def spotP (t p s a : Int) : Int := if spotB t p s a then a / (pageN t p s : Int) - 1 else 0
def spotO (t p s a : Int) : Int := if spotB t p s a then a % (pageN t p s : Int) else 0
/-- the address as it is reckoned, in words of 64 bits -/
def addrW (i o : Int) (g : Nat) : Int := IntKind.i64.wrap (IntKind.i64.wrap (IntKind.i64.wrap (i + 1) * (g : Int)) + o)

theorem i64_same {x : Int} (h : -9223372036854775808 ≤ x) (h' : x ≤ 9223372036854775807) : IntKind.i64.wrap x = x := by
  simp only [IntKind.wrap, IntKind.bits, IntKind.signed]; simp; omega

/-- a page's bytes and all bytes, of a right configuration -/
theorem right_nums {t p s : Int} (h : rightB t p s = true) : ∃ g q : Nat, pageN t p s = g ∧ p = q ∧ bytesN t p s = q * g ∧ 4 ≤ q ∧ q ≤ 1024 ∧ 1024 ≤ g ∧ g ≤ 1048576 ∧ g = 2 ^ s.toNat ∧ 10 ≤ s ∧ s ≤ 20 ∧ q * g ≤ 1073741824 := by
  obtain ⟨_, ⟨hp, hp'⟩, hs, hs'⟩ := (rightB_iff t p s).1 h
  refine ⟨2 ^ s.toNat, p.toNat, page_yes h, by omega, bytes_yes h, by omega, by omega, ?_, ?_, rfl, hs, hs', ?_⟩
  · have := Nat.pow_le_pow_right (show 0 < 2 by omega) (show 10 ≤ s.toNat by omega)
    omega
  · exact (pow_bounds _ (by omega)).2
  · have h1 := (pow_bounds s.toNat (by omega)).2
    have h2 : p.toNat * 2 ^ s.toNat ≤ 1024 * 1048576 := Nat.mul_le_mul (by omega) h1
    omega
theorem wrong_nums {t p s : Int} (h : rightB t p s = false) : pageN t p s = 0 ∧ bytesN t p s = 0 := ⟨page_no h, bytes_no h⟩

theorem spot_right {t p s a : Int} (h : spotB t p s a = true) : rightB t p s = true := by
  cases hr : rightB t p s
  · obtain ⟨h1, h2⟩ := wrong_nums hr
    unfold spotB at h
    rw [h1, h2] at h
    simp at h
    omega
  · rfl
/-- what a page's number and a byte's come to, and back -/
theorem split_at {g i o : Int} (hg : 0 < g) (ho : 0 ≤ o) (ho' : o < g) : ((i + 1) * g + o) / g = i + 1 ∧ ((i + 1) * g + o) % g = o := by
  constructor
  · rw [Int.add_comm, Int.add_mul_ediv_right _ _ (by omega), Int.ediv_eq_zero_of_lt ho ho']; omega
  · rw [Int.add_comm, Int.add_mul_emod_self_right, Int.emod_eq_of_lt ho ho']
theorem mul_bounds {i q g : Int} (h0 : 0 ≤ i) (hi : i < q) (hg : 0 < g) : g ≤ (i + 1) * g ∧ (i + 1) * g ≤ q * g := by
  have h1 : (0 : Int) ≤ i * g := Int.mul_nonneg h0 (by omega)
  have h2 : (i + 1) * g ≤ q * g := Int.mul_le_mul_of_nonneg_right (by omega) (by omega)
  have h3 : (i + 1) * g = i * g + g := by rw [Int.add_mul]; omega
  omega

theorem addr_parts {t p s i o : Int} (h : addrB t p s i o = true) : rightB t p s = true ∧ (0 ≤ i ∧ i < p) ∧ 0 ≤ o ∧ o < (pageN t p s : Int) := by
  unfold addrB at h
  simpa using h
/-- the address of a byte that there is -/
theorem addr_yes {t p s i o : Int} (h : addrB t p s i o = true) :
    addrW i o (pageN t p s) = addrI t p s i o ∧ spotB t p s (addrI t p s i o) = true ∧ spotP t p s (addrI t p s i o) = i ∧ spotO t p s (addrI t p s i o) = o ∧ 1024 ≤ addrI t p s i o ∧ addrI t p s i o ≤ 1075838976 := by
  obtain ⟨hr, ⟨hi, hi'⟩, ho, ho'⟩ := addr_parts h
  obtain ⟨g, q, hg, rfl, hb, q1, q2, g1, g2, _, _, _, qg⟩ := right_nums hr
  rw [hg] at ho'
  have hm := mul_bounds hi hi' (show (0 : Int) < g by omega)
  have hsp := split_at (i := i) (show (0 : Int) < g by omega) ho ho'
  have hqg : ((q * g : Nat) : Int) = (q : Int) * (g : Int) := by push_cast; rfl
  have hI : addrI t q s i o = (i + 1) * (g : Int) + o := by unfold addrI; rw [if_pos h, hg]
  have hB : spotB t q s ((i + 1) * (g : Int) + o) = true := by
    unfold spotB
    rw [hg, hb, decide_eq_true_iff, hqg]
    omega
  rw [hI]
  refine ⟨?_, hB, ?_, ?_, by omega, by omega⟩
  · unfold addrW
    rw [hg, i64_same (x := i + 1) (by omega) (by omega), i64_same (x := (i + 1) * (g : Int)) (by omega) (by omega), i64_same (by omega) (by omega)]
  · unfold spotP
    rw [if_pos hB, hg, hsp.1]
    omega
  · unfold spotO
    rw [if_pos hB, hg, hsp.2]
theorem spot_parts {t p s a : Int} (h : spotB t p s a = true) :
    addrB t p s (spotP t p s a) (spotO t p s a) = true ∧ addrI t p s (spotP t p s a) (spotO t p s a) = a ∧ 1024 ≤ a ∧ a ≤ 1074790400 ∧ (0 ≤ spotP t p s a ∧ spotP t p s a < 1024) ∧ 0 ≤ spotO t p s a ∧ spotO t p s a < 1048576 := by
  have hr := spot_right h
  have h' := h
  unfold spotB at h'
  rw [decide_eq_true_iff] at h'
  obtain ⟨g, q, hg, rfl, hb, q1, q2, g1, g2, _, _, _, qg⟩ := right_nums hr
  rw [hg, hb] at h'
  have hP : spotP t q s a = a / (g : Int) - 1 := by unfold spotP; rw [if_pos h, hg]
  have hO : spotO t q s a = a % (g : Int) := by unfold spotO; rw [if_pos h, hg]
  rw [hP, hO]
  have hqg : ((q * g : Nat) : Int) = (q : Int) * (g : Int) := by push_cast; rfl
  have m0 := Int.emod_nonneg a (show (g : Int) ≠ 0 by omega)
  have m1 := Int.emod_lt_of_pos a (show (0 : Int) < g by omega)
  have d1 : 1 ≤ a / (g : Int) := (Int.le_ediv_iff_mul_le (by omega)).2 (by omega)
  have d2 : a / (g : Int) < (q : Int) + 1 := by
    refine (Int.ediv_lt_iff_lt_mul (by omega)).2 ?_
    rw [Int.add_mul]
    omega
  have hB : addrB t q s (a / (g : Int) - 1) (a % (g : Int)) = true := by
    unfold addrB
    rw [hr, hg, Bool.true_and, decide_eq_true_iff]
    exact ⟨⟨by omega, by omega⟩, m0, m1⟩
  refine ⟨hB, ?_, by omega, by omega, by omega, by omega⟩
  unfold addrI
  rw [if_pos hB, hg, Int.sub_add_cancel, Int.mul_comm]
  exact Int.mul_ediv_add_emod a g
/-- where there is no such byte, what stands at the reckoned address is another one, or none -/
theorem addr_no {t p s i o : Int} (h : addrB t p s i o = false) {a : Int} (hs : spotB t p s a = true) : ¬ (spotP t p s a = i ∧ spotO t p s a = o) := by
  rintro ⟨rfl, rfl⟩
  rw [(spot_parts hs).1] at h
  cases h
theorem addrI_no {t p s i o : Int} (h : addrB t p s i o = false) : addrI t p s i o = 0 := by unfold addrI; rw [h]; rfl
theorem spot_no {t p s a : Int} (h : spotB t p s a = false) : spotP t p s a = 0 ∧ spotO t p s a = 0 := by unfold spotP spotO; rw [h]; exact ⟨rfl, rfl⟩

/-! slots -/
/-- does a slot of a slab of the class k begin at the byte o -/
def slotB (t p s k o : Int) : Bool := rightB t p s && decide (0 < sizeN s k ∧ 0 ≤ o ∧ o % (sizeN s k : Int) = 0 ∧ o / (sizeN s k : Int) < (slotI k : Int))
/-- which one -/
def slotR (t p s k o : Int) : Int := if slotB t p s k o then o / (sizeN s k : Int) else 0
theorem slotR_no {t p s k o : Int} (h : slotB t p s k o = false) : slotR t p s k o = 0 := by unfold slotR; rw [h]; rfl
theorem slot_at {t p s k o : Int} (hr : rightB t p s = true) (i : Nat) (hi : i < slotI k) (ho : o = (i : Int) * (sizeN s k : Int)) : slotB t p s k o = true ∧ slotR t p s k o = i := by
  have h' := (rightB_iff t p s).1 hr
  have hk : 0 ≤ k ∧ k < 9 := by
    have := mt (slotI_zero (k := k)).2 (by omega)
    omega
  obtain ⟨k, rfl⟩ : ∃ n : Nat, k = n := ⟨k.toNat, by omega⟩
  have hz := size_pos (s := s) h'.2.2 (k := k) (by omega)
  have e1 : o / (sizeN s (k : Int) : Int) = (i : Int) := by rw [ho]; exact Int.mul_ediv_cancel _ (by omega)
  have e2 : o % (sizeN s (k : Int) : Int) = 0 := by rw [ho]; exact Int.mul_emod_left _ _
  have e3 : 0 ≤ o := by rw [ho]; exact Int.mul_nonneg (by omega) (by omega)
  have hB : slotB t p s (k : Int) o = true := by
    unfold slotB
    rw [hr, Bool.true_and, decide_eq_true_iff, e1]
    exact ⟨hz, e3, e2, by omega⟩
  refine ⟨hB, ?_⟩
  unfold slotR
  rw [if_pos hB, e1]
theorem slot_parts {t p s k o : Int} (h : slotB t p s k o = true) : rightB t p s = true ∧ ∃ i : Nat, i < slotI k ∧ o = (i : Int) * (sizeN s k : Int) ∧ slotR t p s k o = i := by
  have hh := h
  unfold slotB at hh
  simp only [Bool.and_eq_true, decide_eq_true_eq] at hh
  obtain ⟨hr, h1, h2, h3, h4⟩ := hh
  refine ⟨hr, (o / (sizeN s k : Int)).toNat, ?_, ?_, ?_⟩
  · have := Int.ediv_nonneg h2 (show (0 : Int) ≤ sizeN s k by omega)
    omega
  · have h5 := Int.ediv_nonneg h2 (show (0 : Int) ≤ sizeN s k by omega)
    have h6 := Int.mul_ediv_add_emod o (sizeN s k)
    rw [Int.toNat_of_nonneg h5, Int.mul_comm]
    omega
  · have h5 := Int.ediv_nonneg h2 (show (0 : Int) ≤ sizeN s k by omega)
    unfold slotR
    rw [if_pos h, Int.toNat_of_nonneg h5]
theorem slot_none {t p s k o : Int} (h : ∀ i : Nat, i < slotI k → o ≠ (i : Int) * (sizeN s k : Int)) : slotB t p s k o = false := by
  cases hb : slotB t p s k o
  · rfl
  · obtain ⟨_, i, h1, h2, _⟩ := slot_parts hb
    exact absurd h2 (h i h1)
/-- a slot stands in its page, and slots one behind the other -/
theorem slot_in {s k : Int} (hs : 10 ≤ s ∧ s ≤ 20) {i : Nat} (hi : i < slotI k) : (i + 1) * sizeN s k ≤ pageS s ∧ 16 ≤ sizeN s k ∧ slotI k * sizeN s k ≤ pageS s := by
  have hk : 0 ≤ k ∧ k < 9 := by
    have := mt (slotI_zero (k := k)).2 (by omega)
    omega
  obtain ⟨k, rfl⟩ : ∃ n : Nat, k = n := ⟨k.toNat, by omega⟩
  obtain ⟨_, h16, hle, _⟩ := size_facts hs (k := k) (by omega)
  rw [slotI_nat] at hi ⊢
  have h1 : (i + 1) * sizeN s (k : Int) ≤ slotN k * sizeN s (k : Int) := Nat.mul_le_mul_right _ hi
  rw [Nat.mul_comm] at hle
  exact ⟨by omega, h16, hle⟩

/-! addresses of slots -/
def atB (t p s k i j : Int) : Bool := decide (0 ≤ j ∧ j < (slotI k : Int)) && addrB t p s i (j * (sizeN s k : Int))
def atI (t p s k i j : Int) : Int := if atB t p s k i j then addrI t p s i (j * (sizeN s k : Int)) else 0
theorem at_out {t p s k i j : Int} (h : ¬ (0 ≤ j ∧ j < (slotI k : Int))) : atB t p s k i j = false ∧ atI t p s k i j = 0 := by
  have : atB t p s k i j = false := by unfold atB; simp only [decide_eq_false h, Bool.false_and]
  exact ⟨this, by unfold atI; rw [this]; rfl⟩
theorem at_in {t p s k i j : Int} (h : 0 ≤ j ∧ j < (slotI k : Int)) : atB t p s k i j = addrB t p s i (j * (sizeN s k : Int)) ∧ atI t p s k i j = addrI t p s i (j * (sizeN s k : Int)) := by
  have : atB t p s k i j = addrB t p s i (j * (sizeN s k : Int)) := by unfold atB; simp only [decide_eq_true h, Bool.true_and]
  refine ⟨this, ?_⟩
  unfold atI
  rw [this]
  cases hb : addrB t p s i (j * (sizeN s k : Int))
  · rw [addrI_no hb]; rfl
  · rfl

/-! how many pages -/
def needB (t p s n : Int) : Bool := decide (1 ≤ n ∧ n ≤ (bytesN t p s : Int))
def needI (t p s n : Int) : Int := if needB t p s n then (n + pageN t p s - 1) / (pageN t p s : Int) else 0
theorem need_no {t p s n : Int} (h : needB t p s n = false) : needI t p s n = 0 := by unfold needI; rw [h]; rfl
theorem need_right {t p s n : Int} (h : needB t p s n = true) : rightB t p s = true := by
  cases hr : rightB t p s
  · obtain ⟨h1, h2⟩ := wrong_nums hr
    unfold needB at h
    rw [h2] at h
    simp at h
    omega
  · rfl
theorem need_cut {n g : Int} (hg : 0 < g) : (n + g - 1) / g = n / g + (if n % g > 0 then 1 else 0) := by
  have h1 := Int.mul_ediv_add_emod n g
  have h2 := Int.emod_nonneg n (show g ≠ 0 by omega)
  have h3 := Int.emod_lt_of_pos n hg
  have e : n + g - 1 = (n % g + g - 1) + (n / g) * g := by rw [Int.mul_comm (n / g) g]; omega
  rw [e, Int.add_mul_ediv_right _ _ (by omega)]
  split
  · rw [show n % g + g - 1 = (n % g - 1) + 1 * g by omega, Int.add_mul_ediv_right _ _ (by omega), Int.ediv_eq_zero_of_lt (by omega) (by omega)]
    omega
  · rw [show n % g + g - 1 = g - 1 by omega, Int.ediv_eq_zero_of_lt (by omega) (by omega)]
    omega
/-- as few as can be -/
theorem need_few {t p s n : Int} (h : needB t p s n = true) : ∃ (g m : Nat), pageN t p s = g ∧ needI t p s n = m ∧ 1 ≤ m ∧ m ≤ 1024 ∧ n ≤ (m : Int) * (g : Int) ∧ ((m : Int) - 1) * (g : Int) < n ∧ 1024 ≤ g ∧ g ≤ 1048576 ∧ g = 2 ^ s.toNat ∧ 10 ≤ s ∧ s ≤ 20 ∧ n ≤ 1073741824 := by
  have hr := need_right h
  have hI : needI t p s n = (n + pageN t p s - 1) / (pageN t p s : Int) := by unfold needI; rw [if_pos h]
  unfold needB at h
  rw [decide_eq_true_iff] at h
  obtain ⟨g, q, hg, rfl, hb, q1, q2, g1, g2, gs, s1, s2, qg⟩ := right_nums hr
  rw [hb] at h
  rw [hg] at hI
  have hqg : ((q * g : Nat) : Int) = (q : Int) * (g : Int) := by push_cast; rfl
  obtain ⟨m, hm⟩ : ∃ m : Int, m = (n + g - 1) / (g : Int) := ⟨_, rfl⟩
  have l1 : 1 ≤ m := by rw [hm]; exact (Int.le_ediv_iff_mul_le (by omega)).2 (by omega)
  have e1 : (n + g - 1) - (n + g - 1) % (g : Int) = m * g := by
    have := Int.mul_ediv_add_emod (n + g - 1) g
    rw [hm, Int.mul_comm]
    omega
  have m0 := Int.emod_nonneg (n + g - 1) (show (g : Int) ≠ 0 by omega)
  have m1 := Int.emod_lt_of_pos (n + g - 1) (show (0 : Int) < g by omega)
  have l2 : m < (q : Int) + 1 := by
    rw [hm]
    refine (Int.ediv_lt_iff_lt_mul (by omega)).2 ?_
    rw [Int.add_mul]
    omega
  refine ⟨g, m.toNat, hg, by omega, by omega, by omega, ?_, ?_, g1, g2, gs, s1, s2, by omega⟩
  · rw [Int.toNat_of_nonneg (by omega)]; omega
  · rw [Int.toNat_of_nonneg (by omega), Int.sub_mul]; omega

/-! slots that are unlike have no byte in common -/
theorem apart_math {g z y : Int} {i j a b : Int} (hij : i < j) (ha : 0 ≤ a) (hz : a + z ≤ g) (hb : 0 ≤ b) (hg : 0 < g) : (i + 1) * g + a + z ≤ (j + 1) * g + b := by
  have h1 : (i + 1 + 1) * g ≤ (j + 1) * g := Int.mul_le_mul_of_nonneg_right (by omega) (by omega)
  have h2 : (i + 1 + 1) * g = (i + 1) * g + g := by rw [Int.add_mul (i + 1) 1]; omega
  omega
theorem sixteen (x : Nat) : x / 16 * 16 = x - x % 16 := by omega

end Go.Proofs.Ythiobfghanlelaa

/-
  What stands where in a memory: numbers alone, no program.
-/
namespace Go.Proofs.Ythiobfghanlelaa
set_option linter.unusedVariables false

/-! how a memory is laid: zeros, if the configuration is not right -/
def lT (t p s : Int) : Int := if rightB t p s then t else 0
def lP (t p s : Int) : Int := if rightB t p s then p else 0
def lS (t p s : Int) : Int := if rightB t p s then s else 0
def lA (t p s : Int) : Int := if rightB t p s then 30 + 4 * t else 0
def lC (t p s : Int) : Int := if rightB t p s then 30 + 4 * t + 6 * p else 0
def lM (t p s : Int) : Int := if rightB t p s then (16 + (30 + 4 * t + 6 * p) + 7) / 8 * 8 else 0
def lK (t p s : Int) : Int := if rightB t p s then t + 1 else 0
/-- how many words there are -/
def lW (t p s : Int) : Int := lM t p s + lK t p s * 120

structure Laid7 (t p s T P S A C M K : Int) : Prop where
  hT : lT t p s = T
  hP : lP t p s = P
  hS : lS t p s = S
  hA : lA t p s = A
  hC : lC t p s = C
  hM : lM t p s = M
  hK : lK t p s = K
theorem lay_yes {t p s : Int} (h : rightB t p s = true) : Laid7 t p s t p s (30 + 4 * t) (30 + 4 * t + 6 * p) ((16 + (30 + 4 * t + 6 * p) + 7) / 8 * 8) (t + 1) := by
  constructor <;> simp [lT, lP, lS, lA, lC, lM, lK, h]
theorem lay_no {t p s : Int} (h : rightB t p s = false) : Laid7 t p s 0 0 0 0 0 0 0 := by
  constructor <;> simp [lT, lP, lS, lA, lC, lM, lK, h]
theorem lay_bounds (t p s : Int) : (0 ≤ lT t p s ∧ lT t p s ≤ 16) ∧ (0 ≤ lP t p s ∧ lP t p s ≤ 1024) ∧ (0 ≤ lA t p s ∧ lA t p s ≤ 94) ∧ (0 ≤ lC t p s ∧ lC t p s ≤ 6238) ∧ (0 ≤ lM t p s ∧ lM t p s ≤ 6256) ∧ (0 ≤ lK t p s ∧ lK t p s ≤ 17) ∧ lM t p s % 8 = 0 := by
  cases hr : rightB t p s
  · obtain ⟨h1, h2, h3, h4, h5, h6, h7⟩ := lay_no hr
    omega
  · obtain ⟨h1, h2, h3, h4, h5, h6, h7⟩ := lay_yes hr
    have := (rightB_iff t p s).1 hr
    omega
theorem words_bounds (t p s : Int) : 0 ≤ lW t p s ∧ lW t p s ≤ 8296 ∧ lW t p s % 8 = 0 := by
  have := lay_bounds t p s
  unfold lW
  omega

/-- where the i-th of n things stands, of which the first stands at f, and each has e places -/
def nthI (f n e i : Int) : Int := if f = -1 ∨ i < 0 ∨ n ≤ i then -1 else f + i * e
theorem nth_off {f n e i : Int} (h : f = -1 ∨ i < 0 ∨ n ≤ i) : nthI f n e i = -1 := by unfold nthI; rw [if_pos h]
theorem nth_on {f n e i : Int} (h : ¬ f = -1) (h0 : 0 ≤ i) (h1 : i < n) : nthI f n e i = f + i * e := by unfold nthI; rw [if_neg (by omega)]
theorem nth_bounds {f n e i B : Int} (hf : -1 ≤ f) (hB : f ≤ B) (he : 0 ≤ e) (hn : 0 ≤ n) : -1 ≤ nthI f n e i ∧ nthI f n e i ≤ B + n * e := by
  have h2 := Int.mul_nonneg hn he
  by_cases h : f = -1 ∨ i < 0 ∨ n ≤ i
  · rw [nth_off h]; omega
  · rw [nth_on (by omega) (by omega) (by omega)]
    have h1 := Int.mul_nonneg (show 0 ≤ i by omega) he
    have h3 := Int.mul_le_mul_of_nonneg_right (show i ≤ n by omega) he
    omega

def pageI (t p s q b : Int) : Int := nthI (nthI (lA t p s) (lP t p s) 6 q) 6 1 b
def makerI (t p s m b : Int) : Int := nthI (nthI (lM t p s) (lK t p s) 120 m) 120 1 b
def doneI (t p s q f : Int) : Int := nthI (nthI 30 (lT t p s) 4 q) 4 1 f
def wordI (t p s i : Int) : Int := nthI 16 (lC t p s) 1 i
def callI (t p s m b : Int) : Int := nthI (makerI t p s m 0) 2 8 b
def noteI (t p s m : Int) : Int := makerI t p s m 16
def logI (t p s m i : Int) : Int := nthI (makerI t p s m 24) 96 1 i

theorem pcell_no {t p s q b : Int} (h : ¬ (rightB t p s = true ∧ 0 ≤ q ∧ q < p)) : pageI t p s q b = -1 := by
  have h1 : nthI (lA t p s) (lP t p s) 6 q = -1 := by
    apply nth_off
    cases hr : rightB t p s
    · have := lay_no hr; have := this.hP; omega
    · have := (lay_yes hr).hP; rw [hr] at h; simp at h; omega
  unfold pageI
  exact nth_off (.inl h1)
theorem pcell_yes {t p s q b : Int} (hr : rightB t p s = true) (h0 : 0 ≤ q) (h1 : q < p) (h2 : 0 ≤ b) (h3 : b < 6) : pageI t p s q b = 30 + 4 * t + 6 * q + b := by
  obtain ⟨e1, e2, e3, e4, e5, e6, e7⟩ := lay_yes hr
  have := (rightB_iff t p s).1 hr
  unfold pageI
  rw [nth_on (f := lA t p s) (by omega) h0 (by omega), nth_on (by omega) h2 h3, e4]
  omega
theorem maker_no {t p s m : Int} (h : ¬ (rightB t p s = true ∧ 0 ≤ m ∧ m ≤ t)) : nthI (lM t p s) (lK t p s) 120 m = -1 := by
  apply nth_off
  cases hr : rightB t p s
  · have := lay_no hr; have := this.hK; omega
  · have := (lay_yes hr).hK; rw [hr] at h; simp at h; omega
theorem maker_yes {t p s m : Int} (hr : rightB t p s = true) (h0 : 0 ≤ m) (h1 : m ≤ t) : nthI (lM t p s) (lK t p s) 120 m = lM t p s + m * 120 := by
  have := (lay_yes hr).hK
  have := (lay_bounds t p s)
  exact nth_on (by omega) h0 (by omega)
theorem makerI_no {t p s m b : Int} (h : ¬ (rightB t p s = true ∧ 0 ≤ m ∧ m ≤ t)) : makerI t p s m b = -1 := by unfold makerI; exact nth_off (.inl (maker_no h))
theorem makerI_yes {t p s m b : Int} (hr : rightB t p s = true) (h0 : 0 ≤ m) (h1 : m ≤ t) (h2 : 0 ≤ b) (h3 : b < 120) : makerI t p s m b = lM t p s + m * 120 + b := by
  have := (lay_bounds t p s)
  unfold makerI
  rw [maker_yes hr h0 h1, nth_on (by omega) h2 h3]
  omega
theorem done_no {t p s q f : Int} (h : ¬ (rightB t p s = true ∧ 0 ≤ q ∧ q < t ∧ 0 ≤ f ∧ f < 4)) : doneI t p s q f = -1 := by
  unfold doneI
  apply nth_off
  by_cases hf : 0 ≤ f ∧ f < 4
  · left
    apply nth_off
    cases hr : rightB t p s
    · have := lay_no hr; have := this.hT; omega
    · have := (lay_yes hr).hT; rw [hr] at h; simp at h; omega
  · omega
theorem done_yes {t p s q f : Int} (hr : rightB t p s = true) (h0 : 0 ≤ q) (h1 : q < t) (h2 : 0 ≤ f) (h3 : f < 4) : doneI t p s q f = 30 + 4 * q + f := by
  have := (lay_yes hr).hT
  unfold doneI
  rw [nth_on (f := 30) (by omega) h0 (by omega), nth_on (by omega) h2 h3]
  omega
theorem call_no {t p s m b : Int} (h : ¬ (rightB t p s = true ∧ 0 ≤ m ∧ m ≤ t ∧ 0 ≤ b ∧ b < 2)) : callI t p s m b = -1 := by
  unfold callI
  apply nth_off
  by_cases hf : 0 ≤ b ∧ b < 2
  · left; apply makerI_no; intro h'; exact h ⟨h'.1, h'.2.1, h'.2.2, hf.1, hf.2⟩
  · omega
theorem call_yes {t p s m b : Int} (hr : rightB t p s = true) (h0 : 0 ≤ m) (h1 : m ≤ t) (h2 : 0 ≤ b) (h3 : b < 2) : callI t p s m b = lM t p s + m * 120 + b * 8 := by
  have := (lay_bounds t p s)
  unfold callI
  rw [makerI_yes hr h0 h1 (by omega) (by omega), nth_on (by omega) h2 h3]
  omega
theorem log_no {t p s m i : Int} (h : ¬ (rightB t p s = true ∧ 0 ≤ m ∧ m ≤ t ∧ 0 ≤ i ∧ i < 96)) : logI t p s m i = -1 := by
  unfold logI
  apply nth_off
  by_cases hf : 0 ≤ i ∧ i < 96
  · left; apply makerI_no; intro h'; exact h ⟨h'.1, h'.2.1, h'.2.2, hf.1, hf.2⟩
  · omega
theorem log_yes {t p s m i : Int} (hr : rightB t p s = true) (h0 : 0 ≤ m) (h1 : m ≤ t) (h2 : 0 ≤ i) (h3 : i < 96) : logI t p s m i = lM t p s + m * 120 + 24 + i := by
  have := (lay_bounds t p s)
  unfold logI
  rw [makerI_yes hr h0 h1 (by omega) (by omega), nth_on (by omega) h2 h3]
  omega

/-! what a word is: its kind, and two numbers -/
/-- of a maker's words, the one behind so many others -/
def partT (q r : Int) : Int × Int × Int := if r < 16 then (4, q, r) else if r = 16 then (5, q, 0) else if 24 ≤ r then (6, q, r - 24) else (0, 0, 0)
def atT (t p s w : Int) : Int × Int × Int :=
  if w < 0 ∨ lW t p s ≤ w then (0, 0, 0) else if w < 8 then (1, w, 0) else if w = 8 then (2, 0, 0)
  else if lM t p s ≤ w then partT ((w - lM t p s) / 120) ((w - lM t p s) % 120)
  else if 16 ≤ w ∧ w - 16 < lC t p s then (3, w - 16, 0) else (0, 0, 0)
section
variable {t p s w : Int}
theorem place_out (h : w < 0 ∨ lW t p s ≤ w) : atT t p s w = (0, 0, 0) := by unfold atT; rw [if_pos h]
theorem at_head (h : 0 ≤ w) (h' : w < lW t p s) (h8 : w < 8) : atT t p s w = (1, w, 0) := by unfold atT; rw [if_neg (by omega), if_pos h8]
theorem at_tip (h' : 8 < lW t p s) : atT t p s 8 = (2, 0, 0) := by unfold atT; rw [if_neg (by omega), if_neg (by omega), if_pos rfl]
theorem words_right (h0 : 0 ≤ w) (h : w < lW t p s) : rightB t p s = true := by
  cases hr : rightB t p s
  · have h1 := (lay_no hr).hM; have h2 := (lay_no hr).hK; unfold lW at h; omega
  · rfl
theorem first_far (hr : rightB t p s = true) : 64 ≤ lM t p s ∧ 16 + lC t p s ≤ lM t p s ∧ lM t p s < 24 + lC t p s ∧ 58 ≤ lC t p s ∧ lM t p s % 8 = 0 ∧ lW t p s = lM t p s + (t + 1) * 120 := by
  obtain ⟨e1, e2, e3, e4, e5, e6, e7⟩ := lay_yes hr
  have := (rightB_iff t p s).1 hr
  unfold lW
  rw [e7]
  omega
theorem at_maker (h' : w < lW t p s) (hM : lM t p s ≤ w) : atT t p s w = partT ((w - lM t p s) / 120) ((w - lM t p s) % 120) := by
  have hb := lay_bounds t p s
  have hr := words_right (by omega) h'
  have := first_far hr
  unfold atT
  rw [if_neg (by omega), if_neg (by omega), if_neg (by omega), if_pos hM]
theorem at_cell (h0 : 16 ≤ w) (h1 : w - 16 < lC t p s) : atT t p s w = (3, w - 16, 0) := by
  have hr : rightB t p s = true := by
    cases hr : rightB t p s
    · have h1 := (lay_no hr).hC; omega
    · rfl
  have := first_far hr
  have := (rightB_iff t p s).1 hr
  unfold atT
  rw [if_neg (by omega), if_neg (by omega), if_neg (by omega), if_neg (by omega), if_pos ⟨h0, h1⟩]
theorem at_gap (h9 : 9 ≤ w) (hM : w < lM t p s) (hc : ¬ (16 ≤ w ∧ w - 16 < lC t p s)) : atT t p s w = (0, 0, 0) := by
  unfold atT
  by_cases h : w < 0 ∨ lW t p s ≤ w
  · rw [if_pos h]
  · rw [if_neg h, if_neg (by omega), if_neg (by omega), if_neg (by omega), if_neg hc]
/-- the word that stands i behind the first one of the maker k -/
theorem at_of {k i : Int} (hr : rightB t p s = true) (h0 : 0 ≤ k) (h1 : k ≤ t) (hi : 0 ≤ i) (hi' : i < 120) (hw : w - (lM t p s + k * 120) = i) : atT t p s w = partT k i := by
  have hf := first_far hr
  rw [at_maker (by omega) (by omega)]
  congr 1
  · omega
  · omega
/-- no maker has it -/
theorem at_none (hr : rightB t p s = true) (h9 : 9 ≤ w) (h' : w < lW t p s) (hc : ¬ (16 ≤ w ∧ w - 16 < lC t p s))
    (hn : ∀ k : Int, 0 ≤ k → k ≤ t → ¬ ((0 ≤ w - (lM t p s + k * 120) ∧ w - (lM t p s + k * 120) < 17) ∨ (24 ≤ w - (lM t p s + k * 120) ∧ w - (lM t p s + k * 120) < 120))) : atT t p s w = (0, 0, 0) := by
  have hf := first_far hr
  by_cases hM : lM t p s ≤ w
  · rw [at_maker h' hM]
    have := hn ((w - lM t p s) / 120) (by omega) (by omega)
    unfold partT
    rw [if_neg (by omega), if_neg (by omega), if_neg (by omega)]
  · exact at_gap h9 (by omega) hc
end
end Go.Proofs.Ythiobfghanlelaa

/-
  What values of cells are, as functions: which pages spans begin at, and when they go up to the end. No program is named here.
-/
namespace Go.Proofs.Ythiobfghanlelaa
open Go.ChangeShapes Go.WideShapes Go.ChangeAt Go.RowKit
set_option linter.unusedVariables false

/-- a right configuration (threads, pages, shift), and values of its cells -/
structure AuH where
  t : Nat
  p : Nat
  s : Nat
  V : Nat → Nat

namespace AuH
variable (H : AuH)
/-- the cell b of the page q -/
def cel (q b : Nat) : Nat := H.V (30 + 4 * H.t + 6 * q + b)
def K (q : Nat) : Int := (infoG (H.cel q 0)).1
def L (q : Nat) : Int := (infoG (H.cel q 0)).2.1
def Cl (q : Nat) : Int := (infoG (H.cel q 0)).2.2.1
def ok (q : Nat) : Bool := (infoG (H.cel q 0)).2.2.2
def ln (q : Nat) : Nat := (H.L q).toNat
theorem info_eq (q : Nat) : infoG (H.cel q 0) = (H.K q, H.L q, H.Cl q, H.ok q) := rfl
theorem infoP_at (q : Nat) : infoP (H.K q) (H.L q) (H.Cl q) := by
  cases hb : H.ok q
  · have h := H.info_eq q
    rw [hb] at h
    exact .inl (infoG_none h)
  · have h := H.info_eq q
    rw [hb] at h
    exact infoB_iff (infoG_back h).1
theorem ok_of (q : Nat) (h : H.K q ≠ 0) : H.ok q = true := by
  cases hb : H.ok q
  · have h2 := H.info_eq q
    rw [hb] at h2
    exact absurd (infoG_none h2).1 h
  · rfl
theorem K_cases (q : Nat) : (H.K q = 0 ∧ H.ln q = 0 ∧ H.Cl q = 0) ∨ ((H.K q = 1 ∨ H.K q = 2) ∧ 1 ≤ H.ln q ∧ H.ln q ≤ 1024 ∧ H.Cl q = 0) ∨ (H.K q = 3 ∧ H.ln q = 1 ∧ 0 ≤ H.Cl q ∧ H.Cl q ≤ 8) := by
  have h := H.infoP_at q
  unfold infoP at h
  unfold ln
  omega
theorem L_ln (q : Nat) : H.L q = (H.ln q : Int) := by
  have h := H.infoP_at q
  unfold infoP at h
  unfold ln
  omega
theorem K_zero (q : Nat) (h : H.cel q 0 = 0) : H.K q = 0 ∧ H.ok q = true := by
  have e : infoG 0 = (0, 0, 0, true) := by decide
  unfold K ok
  rw [h, e]
  exact ⟨rfl, rfl⟩
theorem ln_pos (q : Nat) (h : H.K q ≠ 0) : 1 ≤ H.ln q ∧ H.ln q ≤ 1024 := by
  have := H.K_cases q
  omega

/-- may a span begin at a page, and do its pages be there? -/
def can (q : Nat) : Bool := decide (q < H.p ∧ H.K q ≠ 0 ∧ q + H.ln q ≤ H.p)
def nx (q : Nat) : Nat := q + H.ln q
theorem can_iff (q : Nat) : H.can q = true ↔ q < H.p ∧ H.K q ≠ 0 ∧ q + H.ln q ≤ H.p := by unfold can; exact decide_eq_true_iff
theorem can_no (q : Nat) : H.can q = false ↔ ¬ (q < H.p ∧ H.K q ≠ 0 ∧ q + H.ln q ≤ H.p) := by unfold can; exact decide_eq_false_iff_not
theorem nx_gt {q : Nat} (h : H.can q = true) : q < H.nx q ∧ H.nx q ≤ H.p := by
  have h := (H.can_iff q).1 h
  have := H.ln_pos q h.2.1
  unfold nx
  omega

/-- the pages that one comes to, from one span to the next one -/
inductive At : Nat → Prop where
  | zero : At 0
  | step {q : Nat} : At q → H.can q = true → At (H.nx q)
variable {H}
theorem At.le {q : Nat} (h : H.At q) : q ≤ H.p := by
  cases h with
  | zero => omega
  | step h hc => exact (H.nx_gt hc).2
theorem At.chain : ∀ (n a b : Nat), a + b ≤ n → H.At a → H.At b → a < b → H.can a = true ∧ H.nx a ≤ b := by
  intro n
  induction n with
  | zero => intro a b h _ _ hl; omega
  | succ n ih =>
    intro a b h ha hb hl
    cases hb with
    | zero => omega
    | step hb0 hc =>
      rename_i b0
      have h0 := H.nx_gt hc
      rcases Nat.lt_trichotomy a b0 with h1 | h1 | h1
      · have := ih a b0 (by omega) ha hb0 h1
        exact ⟨this.1, by omega⟩
      · subst h1
        exact ⟨hc, Nat.le_refl _⟩
      · have := ih b0 a (by omega) hb0 ha h1
        omega
theorem At.next {a b : Nat} (ha : H.At a) (hb : H.At b) (h : a < b) : H.can a = true ∧ H.nx a ≤ b := At.chain _ a b (Nat.le_refl _) ha hb h
theorem At.cover {x : Nat} (h : H.At x) : ∀ q, q < x → ∃ a, H.At a ∧ H.can a = true ∧ a ≤ q ∧ q < H.nx a := by
  induction h with
  | zero => intro q hq; omega
  | step h hc ih =>
    rename_i a
    intro q hq
    rcases Nat.lt_or_ge q a with h1 | h1
    · exact ih q h1
    · exact ⟨a, h, hc, h1, hq⟩
variable (H)
/-- is the info of all pages behind a span's first one 0, of the spans ahead of x? -/
def Bare (x : Nat) : Prop := ∀ a, H.At a → H.can a = true → a < x → ∀ q, a < q → q < H.nx a → H.cel q 0 = 0
/-- rule 2 -/
def Tiled : Prop := H.At H.p ∧ H.Bare H.p
variable {H}
theorem Bare.step {a : Nat} (h : H.Bare a) (ha : H.At a) (hb : ∀ q, a < q → q < H.nx a → H.cel q 0 = 0) : H.Bare (H.nx a) := by
  intro b hb1 hb2 hb3 q h1 h2
  rcases Nat.lt_trichotomy b a with h3 | h3 | h3
  · exact h b hb1 hb2 h3 q h1 h2
  · subst h3; exact hb q h1 h2
  · have := (At.next ha hb1 h3).2; omega
theorem not_tiled_end {a : Nat} (ha : H.At a) (hc : H.can a = false) (h : a ≠ H.p) : ¬ H.Tiled := by
  rintro ⟨h1, _⟩
  have := At.next ha h1 (by have := ha.le; omega)
  rw [this.1] at hc
  cases hc
theorem not_tiled_in {a q : Nat} (ha : H.At a) (hc : H.can a = true) (h1 : a < q) (h2 : q < H.nx a) (h : H.cel q 0 ≠ 0) : ¬ H.Tiled := by
  rintro ⟨_, hb⟩
  exact h (hb a ha hc (by have := (H.can_iff a).1 hc; omega) q h1 h2)
theorem tiled_of {a : Nat} (ha : H.At a) (hb : H.Bare a) (h : a = H.p) : H.Tiled := by subst h; exact ⟨ha, hb⟩

/-! what holds of spans that go up to the end -/
theorem Tiled.start (h : H.Tiled) {q : Nat} (hq : q < H.p) (hk : H.K q ≠ 0) : H.At q ∧ H.can q = true := by
  obtain ⟨a, h1, h2, h3, h4⟩ := h.1.cover q hq
  rcases Nat.eq_or_lt_of_le h3 with h5 | h5
  · subst h5; exact ⟨h1, h2⟩
  · exact absurd (H.K_zero q (h.2 a h1 h2 (by omega) q h5 h4)).1 hk
theorem Tiled.at_can (h : H.Tiled) {q : Nat} (ha : H.At q) (hq : q < H.p) : H.can q = true := (At.next ha h.1 hq).1
theorem Tiled.can_eq (h : H.Tiled) {q : Nat} (ha : H.At q) : H.can q = decide (q < H.p) := by
  by_cases hq : q < H.p
  · rw [h.at_can ha hq, decide_eq_true hq]
  · rw [decide_eq_false hq]; exact (H.can_no q).2 (by omega)
theorem Tiled.at_K (h : H.Tiled) {q : Nat} (ha : H.At q) (hq : q < H.p) : H.K q ≠ 0 := ((H.can_iff q).1 (h.at_can ha hq)).2.1
theorem Tiled.inside (h : H.Tiled) {a q : Nat} (ha : H.At a) (h0 : a < H.p) (h1 : a < q) (h2 : q < H.nx a) : H.K q = 0 := (H.K_zero q (h.2 a ha (h.at_can ha h0) h0 q h1 h2)).1
theorem Tiled.cover (h : H.Tiled) {q : Nat} (hq : q < H.p) : ∃ a, H.At a ∧ a < H.p ∧ H.K a ≠ 0 ∧ a ≤ q ∧ q < H.nx a := by
  obtain ⟨a, h1, h2, h3, h4⟩ := h.1.cover q hq
  exact ⟨a, h1, by omega, h.at_K h1 (by omega), h3, h4⟩
/-- what is told of the pages ahead of a span, and of its own first one, is told of the pages ahead of the next span: the others begin none -/
theorem Tiled.step {R : Nat → Prop} (h : H.Tiled) {a : Nat} (ha : H.At a) (h0 : a < H.p) (h1 : ∀ q, q < a → H.K q ≠ 0 → R q) (h2 : R a) : ∀ q, q < H.nx a → H.K q ≠ 0 → R q := by
  intro q hq hk
  rcases Nat.lt_trichotomy q a with h3 | h3 | h3
  · exact h1 q h3 hk
  · subst h3; exact h2
  · exact absurd (h.inside ha h0 h3 hq) hk
/-- a sum over pages, of which only those at which spans begin count -/
def sumTo (f : Nat → Nat) : Nat → Nat
  | 0 => 0
  | n + 1 => sumTo f n + f n
theorem sumTo_skip (f : Nat → Nat) (a : Nat) : ∀ n, (∀ q, a ≤ q → q < a + n → f q = 0) → sumTo f (a + n) = sumTo f a
  | 0, _ => rfl
  | n + 1, h => by
    show sumTo f (a + n) + f (a + n) = _
    rw [sumTo_skip f a n (fun q h1 h2 => h q h1 (by omega)), h (a + n) (by omega) (by omega)]
    omega
theorem Tiled.sum {f : Nat → Nat} (h : H.Tiled) {a : Nat} (ha : H.At a) (h0 : a < H.p) (hf : ∀ q, q < H.p → H.K q = 0 → f q = 0) : sumTo f (H.nx a) = sumTo f a + f a := by
  have h1 := H.ln_pos a (h.at_K ha h0)
  have h2 := (H.nx_gt (h.at_can ha h0)).2
  have e : H.nx a = (a + 1) + (H.ln a - 1) := by unfold nx; omega
  rw [e, sumTo_skip f (a + 1) _ (fun q h3 h4 => hf q (by omega) (h.inside ha h0 (by omega) (by omega)))]
  rfl
theorem sumTo_le (f : Nat → Nat) (m : Nat) : ∀ n, (∀ q, q < n → f q ≤ m) → sumTo f n ≤ n * m
  | 0, _ => by simp [sumTo]
  | n + 1, h => by
    have h1 := sumTo_le f m n (fun q hq => h q (by omega))
    have h2 := h n (by omega)
    show sumTo f n + f n ≤ (n + 1) * m
    rw [Nat.succ_mul]
    omega
/-- a list of what pages give, of which only those at which spans begin give something -/
def catTo {α : Type} (f : Nat → List α) : Nat → List α
  | 0 => []
  | n + 1 => catTo f n ++ f n
theorem catTo_skip {α : Type} (f : Nat → List α) (a : Nat) : ∀ n, (∀ q, a ≤ q → q < a + n → f q = []) → catTo f (a + n) = catTo f a
  | 0, _ => rfl
  | n + 1, h => by
    show catTo f (a + n) ++ f (a + n) = _
    rw [catTo_skip f a n (fun q h1 h2 => h q h1 (by omega)), h (a + n) (by omega) (by omega), List.append_nil]
theorem Tiled.cat {α : Type} {f : Nat → List α} (h : H.Tiled) {a : Nat} (ha : H.At a) (h0 : a < H.p) (hf : ∀ q, q < H.p → H.K q = 0 → f q = []) : catTo f (H.nx a) = catTo f a ++ f a := by
  have h1 := H.ln_pos a (h.at_K ha h0)
  have h2 := (H.nx_gt (h.at_can ha h0)).2
  have e : H.nx a = (a + 1) + (H.ln a - 1) := by unfold nx; omega
  rw [e, catTo_skip f (a + 1) _ (fun q h3 h4 => hf q (by omega) (h.inside ha h0 (by omega) (by omega)))]
  rfl
end AuH

/-! short names for what each step of a drawn region is laid down by -/
theorem gA {α : Type} {xs : List α} {i : Nat} (h : i < xs.toArray.size) : xs.toArray[i] = xs[i]'(by simpa using h) := List.getElem_toArray h
theorem gB {α : Type} (a : α) (l : List α) (h : 0 < (a :: l).length) : (a :: l)[0]'h = a := List.getElem_cons_zero a l h
theorem gC {α : Type} (a : α) (l : List α) (i : Nat) (h : i + 1 < (a :: l).length) : (a :: l)[i + 1]'h = l[i]'(Nat.lt_of_succ_lt_succ h) := List.getElem_cons_succ a l i h
theorem sA {α : Type} (l : List α) (i : Nat) (a : α) : l.toArray.setIfInBounds i a = (l.set i a).toArray := List.setIfInBounds_toArray l i a
theorem sB {α : Type} {x : α} {xs : List α} {a : α} : (x :: xs).set 0 a = a :: xs := List.set_cons_zero
theorem sC {α : Type} {x : α} {xs : List α} {i : Nat} {a : α} : (x :: xs).set (i + 1) a = x :: xs.set i a := List.set_cons_succ
section
variable {P : Program} {ops : Array Oper} {Q : Exit → Act → World → Prop} {md : Region.Mode} {S : World → Prop} {i : Nat} {oi : Oper} {v : Value} {fuel : Nat} {listed : Array Bool} {a : Act} {w : World}
/-- in a drawn region: an operation that yields in every world that meets S comes up first -/
theorem tkO (hi : ops[i]? = some oi) (h3 : (Region.noSelect ops && Region.free md ops listed i && (Region.ready md ops listed).contains i) = true) (hQ : ∀ c a w, Q (.panic c) (a.put oi.dst v) w → Q (.panic c) a w)
    (hw : Region.wanted oi (yielded ops a.tmps) = true) (hy : ∀ w, S w → (execOp a.eval oi).run P w = .ok (.value v) w) (hS : S w) (h : wpAnyH P md ops Q S fuel (listed.setIfInBounds i true) (a.put oi.dst v) w) : wpAnyH P md ops Q S (fuel + 1) listed a w := by
  rw [Bool.and_eq_true, Bool.and_eq_true] at h3
  exact wpAnyH_take hi h3.1.1 h3.1.2 h3.2 hQ (Or.inl ⟨hw, hy⟩) hS h
/-- one that its guard does not want -/
theorem skO (hi : ops[i]? = some oi) (h3 : (Region.noSelect ops && Region.free md ops listed i && (Region.ready md ops listed).contains i) = true) (hQ : ∀ c a w, Q (.panic c) (a.put oi.dst undef) w → Q (.panic c) a w)
    (hw : Region.wanted oi (yielded ops a.tmps) = false) (hS : S w) (h : wpAnyH P md ops Q S fuel (listed.setIfInBounds i true) (a.put oi.dst undef) w) : wpAnyH P md ops Q S (fuel + 1) listed a w := by
  rw [Bool.and_eq_true, Bool.and_eq_true] at h3
  exact wpAnyH_take hi h3.1.1 h3.1.2 h3.2 hQ (Or.inr ⟨hw, rfl⟩) hS h
end
end Go.Proofs.Ythiobfghanlelaa
