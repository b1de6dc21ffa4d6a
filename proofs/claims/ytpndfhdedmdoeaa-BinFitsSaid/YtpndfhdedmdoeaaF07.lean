/-
  Addresses, slots and numbers of pages: numbers only.
-/
import Derived.Test.YtpndfhdedmdoeaaF06
import Derived.Test.YtpndfhdedmdoeaaF05
import Derived.Deep.RegionHeld3
namespace Go.Proofs.Ytpndfhdedmdoeaa
set_option linter.unusedVariables false

/-- is there a byte o of a page i -/
def addrB (t p s i o : Int) : Bool := rightB t p s && decide ((0 ≤ i ∧ i < p) ∧ 0 ≤ o ∧ o < (pageN t p s : Int))
/-- its address -/
def addrI (t p s i o : Int) : Int := if addrB t p s i o then (i + 1) * (pageN t p s : Int) + o else 0
/-- is a an address -/
def spotB (t p s a : Int) : Bool := decide ((pageN t p s : Int) ≤ a ∧ a - pageN t p s < (bytesN t p s : Int))
def spotP (t p s a : Int) : Int := if spotB t p s a then a / (pageN t p s : Int) - 1 else 0
def spotO (t p s a : Int) : Int := if spotB t p s a then a % (pageN t p s : Int) else 0
/-- the address as it is reckoned, in words of 64 bits -/
def addrW (i o : Int) (g : Nat) : Int := IntKind.i64.wrap (IntKind.i64.wrap (IntKind.i64.wrap (i + 1) * (g : Int)) + o)

theorem i64_same {x : Int} (h : -9223372036854775808 ≤ x) (h' : x ≤ 9223372036854775807) : IntKind.i64.wrap x = x := by
  simp only [IntKind.wrap, IntKind.bits, IntKind.signed]; simp; omega

/-- a page's bytes and all bytes, of a right configuration -/
theorem right_nums {t p s : Int} (h : rightB t p s = true) : ∃ g q : Nat, pageN t p s = g ∧ p = q ∧ bytesN t p s = q * g ∧ 4 ≤ q ∧ q ≤ 1024 ∧ 1024 ≤ g ∧ g ≤ 1048576 ∧ g = 2 ^ s.toNat ∧ 10 ≤ s ∧ s ≤ 20 ∧ q * g ≤ 1073741824 := by
  obtain ⟨_, ⟨hp, hp'⟩, hs, hs'⟩ := (rightB_iff t p s).1 h
  refine ⟨2 ^ s.toNat, p.toNat, page_yes h, by omega, bytes_yes h, by omega, by omega, ?_, ?_, rfl, hs, hs', ?_⟩
  · have := Nat.pow_le_pow_right (show 0 < 2 by omega) (show 10 ≤ s.toNat by omega)
    omega
  · exact (pow_bounds _ (by omega)).2
  · have h1 := (pow_bounds s.toNat (by omega)).2
    have h2 : p.toNat * 2 ^ s.toNat ≤ 1024 * 1048576 := Nat.mul_le_mul (by omega) h1
    omega
theorem wrong_nums {t p s : Int} (h : rightB t p s = false) : pageN t p s = 0 ∧ bytesN t p s = 0 := ⟨page_no h, bytes_no h⟩

theorem spot_right {t p s a : Int} (h : spotB t p s a = true) : rightB t p s = true := by
  cases hr : rightB t p s
  · obtain ⟨h1, h2⟩ := wrong_nums hr
    unfold spotB at h
    rw [h1, h2] at h
    simp at h
    omega
  · rfl
/-- what a page's number and a byte's come to, and back -/
theorem split_at {g i o : Int} (hg : 0 < g) (ho : 0 ≤ o) (ho' : o < g) : ((i + 1) * g + o) / g = i + 1 ∧ ((i + 1) * g + o) % g = o := by
  constructor
  · rw [Int.add_comm, Int.add_mul_ediv_right _ _ (by omega), Int.ediv_eq_zero_of_lt ho ho']; omega
  · rw [Int.add_comm, Int.add_mul_emod_self_right, Int.emod_eq_of_lt ho ho']
theorem mul_bounds {i q g : Int} (h0 : 0 ≤ i) (hi : i < q) (hg : 0 < g) : g ≤ (i + 1) * g ∧ (i + 1) * g ≤ q * g := by
  have h1 : (0 : Int) ≤ i * g := Int.mul_nonneg h0 (by omega)
  have h2 : (i + 1) * g ≤ q * g := Int.mul_le_mul_of_nonneg_right (by omega) (by omega)
  have h3 : (i + 1) * g = i * g + g := by rw [Int.add_mul]; omega
  omega

theorem addr_parts {t p s i o : Int} (h : addrB t p s i o = true) : rightB t p s = true ∧ (0 ≤ i ∧ i < p) ∧ 0 ≤ o ∧ o < (pageN t p s : Int) := by
  unfold addrB at h
  simpa using h
/-- the address of a byte that there is -/
theorem addr_yes {t p s i o : Int} (h : addrB t p s i o = true) :
    addrW i o (pageN t p s) = addrI t p s i o ∧ spotB t p s (addrI t p s i o) = true ∧ spotP t p s (addrI t p s i o) = i ∧ spotO t p s (addrI t p s i o) = o ∧ 1024 ≤ addrI t p s i o ∧ addrI t p s i o ≤ 1075838976 := by
  obtain ⟨hr, ⟨hi, hi'⟩, ho, ho'⟩ := addr_parts h
  obtain ⟨g, q, hg, rfl, hb, q1, q2, g1, g2, _, _, _, qg⟩ := right_nums hr
  rw [hg] at ho'
  have hm := mul_bounds hi hi' (show (0 : Int) < g by omega)
  have hsp := split_at (i := i) (show (0 : Int) < g by omega) ho ho'
  have hqg : ((q * g : Nat) : Int) = (q : Int) * (g : Int) := by push_cast; rfl
  have hI : addrI t q s i o = (i + 1) * (g : Int) + o := by unfold addrI; rw [if_pos h, hg]
  have hB : spotB t q s ((i + 1) * (g : Int) + o) = true := by
    unfold spotB
    rw [hg, hb, decide_eq_true_iff, hqg]
    omega
  rw [hI]
  refine ⟨?_, hB, ?_, ?_, by omega, by omega⟩
  · unfold addrW
    rw [hg, i64_same (x := i + 1) (by omega) (by omega), i64_same (x := (i + 1) * (g : Int)) (by omega) (by omega), i64_same (by omega) (by omega)]
  · unfold spotP
    rw [if_pos hB, hg, hsp.1]
    omega
  · unfold spotO
    rw [if_pos hB, hg, hsp.2]
theorem spot_parts {t p s a : Int} (h : spotB t p s a = true) :
    addrB t p s (spotP t p s a) (spotO t p s a) = true ∧ addrI t p s (spotP t p s a) (spotO t p s a) = a ∧ 1024 ≤ a ∧ a ≤ 1074790400 ∧ (0 ≤ spotP t p s a ∧ spotP t p s a < 1024) ∧ 0 ≤ spotO t p s a ∧ spotO t p s a < 1048576 := by
  have hr := spot_right h
  have h' := h
  unfold spotB at h'
  rw [decide_eq_true_iff] at h'
  obtain ⟨g, q, hg, rfl, hb, q1, q2, g1, g2, _, _, _, qg⟩ := right_nums hr
  rw [hg, hb] at h'
  have hP : spotP t q s a = a / (g : Int) - 1 := by unfold spotP; rw [if_pos h, hg]
  have hO : spotO t q s a = a % (g : Int) := by unfold spotO; rw [if_pos h, hg]
  rw [hP, hO]
  have hqg : ((q * g : Nat) : Int) = (q : Int) * (g : Int) := by push_cast; rfl
  have m0 := Int.emod_nonneg a (show (g : Int) ≠ 0 by omega)
  have m1 := Int.emod_lt_of_pos a (show (0 : Int) < g by omega)
  have d1 : 1 ≤ a / (g : Int) := (Int.le_ediv_iff_mul_le (by omega)).2 (by omega)
  have d2 : a / (g : Int) < (q : Int) + 1 := by
    refine (Int.ediv_lt_iff_lt_mul (by omega)).2 ?_
    rw [Int.add_mul]
    omega
  have hB : addrB t q s (a / (g : Int) - 1) (a % (g : Int)) = true := by
    unfold addrB
    rw [hr, hg, Bool.true_and, decide_eq_true_iff]
    exact ⟨⟨by omega, by omega⟩, m0, m1⟩
  refine ⟨hB, ?_, by omega, by omega, by omega, by omega⟩
  unfold addrI
  rw [if_pos hB, hg, Int.sub_add_cancel, Int.mul_comm]
  exact Int.mul_ediv_add_emod a g
/-- where there is no such byte, what stands at the reckoned address is another one, or none -/
theorem addr_no {t p s i o : Int} (h : addrB t p s i o = false) {a : Int} (hs : spotB t p s a = true) : ¬ (spotP t p s a = i ∧ spotO t p s a = o) := by
  rintro ⟨rfl, rfl⟩
  rw [(spot_parts hs).1] at h
  cases h
theorem addrI_no {t p s i o : Int} (h : addrB t p s i o = false) : addrI t p s i o = 0 := by unfold addrI; rw [h]; rfl
theorem spot_no {t p s a : Int} (h : spotB t p s a = false) : spotP t p s a = 0 ∧ spotO t p s a = 0 := by unfold spotP spotO; rw [h]; exact ⟨rfl, rfl⟩

/-! slots -/
/-- does a slot of a slab of the class k begin at the byte o -/
def slotB (t p s k o : Int) : Bool := rightB t p s && decide (0 < sizeN s k ∧ 0 ≤ o ∧ o % (sizeN s k : Int) = 0 ∧ o / (sizeN s k : Int) < (slotI k : Int))
/-- which one -/
def slotR (t p s k o : Int) : Int := if slotB t p s k o then o / (sizeN s k : Int) else 0
theorem slotR_no {t p s k o : Int} (h : slotB t p s k o = false) : slotR t p s k o = 0 := by unfold slotR; rw [h]; rfl
theorem slot_at {t p s k o : Int} (hr : rightB t p s = true) (i : Nat) (hi : i < slotI k) (ho : o = (i : Int) * (sizeN s k : Int)) : slotB t p s k o = true ∧ slotR t p s k o = i := by
  have h' := (rightB_iff t p s).1 hr
  have hk : 0 ≤ k ∧ k < 9 := by
    have := mt (slotI_zero (k := k)).2 (by omega)
    omega
  obtain ⟨k, rfl⟩ : ∃ n : Nat, k = n := ⟨k.toNat, by omega⟩
  have hz := size_pos (s := s) h'.2.2 (k := k) (by omega)
  have e1 : o / (sizeN s (k : Int) : Int) = (i : Int) := by rw [ho]; exact Int.mul_ediv_cancel _ (by omega)
  have e2 : o % (sizeN s (k : Int) : Int) = 0 := by rw [ho]; exact Int.mul_emod_left _ _
  have e3 : 0 ≤ o := by rw [ho]; exact Int.mul_nonneg (by omega) (by omega)
  have hB : slotB t p s (k : Int) o = true := by
    unfold slotB
    rw [hr, Bool.true_and, decide_eq_true_iff, e1]
    exact ⟨hz, e3, e2, by omega⟩
  refine ⟨hB, ?_⟩
  unfold slotR
  rw [if_pos hB, e1]
theorem slot_parts {t p s k o : Int} (h : slotB t p s k o = true) : rightB t p s = true ∧ ∃ i : Nat, i < slotI k ∧ o = (i : Int) * (sizeN s k : Int) ∧ slotR t p s k o = i := by
  have hh := h
  unfold slotB at hh
  simp only [Bool.and_eq_true, decide_eq_true_eq] at hh
  obtain ⟨hr, h1, h2, h3, h4⟩ := hh
  refine ⟨hr, (o / (sizeN s k : Int)).toNat, ?_, ?_, ?_⟩
  · have := Int.ediv_nonneg h2 (show (0 : Int) ≤ sizeN s k by omega)
    omega
  · have h5 := Int.ediv_nonneg h2 (show (0 : Int) ≤ sizeN s k by omega)
    have h6 := Int.mul_ediv_add_emod o (sizeN s k)
    rw [Int.toNat_of_nonneg h5, Int.mul_comm]
    omega
  · have h5 := Int.ediv_nonneg h2 (show (0 : Int) ≤ sizeN s k by omega)
    unfold slotR
    rw [if_pos h, Int.toNat_of_nonneg h5]
theorem slot_none {t p s k o : Int} (h : ∀ i : Nat, i < slotI k → o ≠ (i : Int) * (sizeN s k : Int)) : slotB t p s k o = false := by
  cases hb : slotB t p s k o
  · rfl
  · obtain ⟨_, i, h1, h2, _⟩ := slot_parts hb
    exact absurd h2 (h i h1)
/-- a slot stands in its page, and slots one behind the other -/
theorem slot_in {s k : Int} (hs : 10 ≤ s ∧ s ≤ 20) {i : Nat} (hi : i < slotI k) : (i + 1) * sizeN s k ≤ pageS s ∧ 16 ≤ sizeN s k ∧ slotI k * sizeN s k ≤ pageS s := by
  have hk : 0 ≤ k ∧ k < 9 := by
    have := mt (slotI_zero (k := k)).2 (by omega)
    omega
  obtain ⟨k, rfl⟩ : ∃ n : Nat, k = n := ⟨k.toNat, by omega⟩
  obtain ⟨_, h16, hle, _⟩ := size_facts hs (k := k) (by omega)
  rw [slotI_nat] at hi ⊢
  have h1 : (i + 1) * sizeN s (k : Int) ≤ slotN k * sizeN s (k : Int) := Nat.mul_le_mul_right _ hi
  rw [Nat.mul_comm] at hle
  exact ⟨by omega, h16, hle⟩

/-! addresses of slots -/
def atB (t p s k i j : Int) : Bool := decide (0 ≤ j ∧ j < (slotI k : Int)) && addrB t p s i (j * (sizeN s k : Int))
def atI (t p s k i j : Int) : Int := if atB t p s k i j then addrI t p s i (j * (sizeN s k : Int)) else 0
theorem at_out {t p s k i j : Int} (h : ¬ (0 ≤ j ∧ j < (slotI k : Int))) : atB t p s k i j = false ∧ atI t p s k i j = 0 := by
  have : atB t p s k i j = false := by unfold atB; simp only [decide_eq_false h, Bool.false_and]
  exact ⟨this, by unfold atI; rw [this]; rfl⟩
theorem at_in {t p s k i j : Int} (h : 0 ≤ j ∧ j < (slotI k : Int)) : atB t p s k i j = addrB t p s i (j * (sizeN s k : Int)) ∧ atI t p s k i j = addrI t p s i (j * (sizeN s k : Int)) := by
  have : atB t p s k i j = addrB t p s i (j * (sizeN s k : Int)) := by unfold atB; simp only [decide_eq_true h, Bool.true_and]
  refine ⟨this, ?_⟩
  unfold atI
  rw [this]
  cases hb : addrB t p s i (j * (sizeN s k : Int))
  · rw [addrI_no hb]; rfl
  · rfl

/-! how many pages -/
def needB (t p s n : Int) : Bool := decide (1 ≤ n ∧ n ≤ (bytesN t p s : Int))
def needI (t p s n : Int) : Int := if needB t p s n then (n + pageN t p s - 1) / (pageN t p s : Int) else 0
theorem need_no {t p s n : Int} (h : needB t p s n = false) : needI t p s n = 0 := by unfold needI; rw [h]; rfl
theorem need_right {t p s n : Int} (h : needB t p s n = true) : rightB t p s = true := by
  cases hr : rightB t p s
  · obtain ⟨h1, h2⟩ := wrong_nums hr
    unfold needB at h
    rw [h2] at h
    simp at h
    omega
  · rfl
theorem need_cut {n g : Int} (hg : 0 < g) : (n + g - 1) / g = n / g + (if n % g > 0 then 1 else 0) := by
  have h1 := Int.mul_ediv_add_emod n g
  have h2 := Int.emod_nonneg n (show g ≠ 0 by omega)
  have h3 := Int.emod_lt_of_pos n hg
  have e : n + g - 1 = (n % g + g - 1) + (n / g) * g := by rw [Int.mul_comm (n / g) g]; omega
  rw [e, Int.add_mul_ediv_right _ _ (by omega)]
  split
  · rw [show n % g + g - 1 = (n % g - 1) + 1 * g by omega, Int.add_mul_ediv_right _ _ (by omega), Int.ediv_eq_zero_of_lt (by omega) (by omega)]
    omega
  · rw [show n % g + g - 1 = g - 1 by omega, Int.ediv_eq_zero_of_lt (by omega) (by omega)]
    omega
/-- as few as can be -/
theorem need_few {t p s n : Int} (h : needB t p s n = true) : ∃ (g m : Nat), pageN t p s = g ∧ needI t p s n = m ∧ 1 ≤ m ∧ m ≤ 1024 ∧ n ≤ (m : Int) * (g : Int) ∧ ((m : Int) - 1) * (g : Int) < n ∧ 1024 ≤ g ∧ g ≤ 1048576 ∧ g = 2 ^ s.toNat ∧ 10 ≤ s ∧ s ≤ 20 ∧ n ≤ 1073741824 := by
  have hr := need_right h
  have hI : needI t p s n = (n + pageN t p s - 1) / (pageN t p s : Int) := by unfold needI; rw [if_pos h]
  unfold needB at h
  rw [decide_eq_true_iff] at h
  obtain ⟨g, q, hg, rfl, hb, q1, q2, g1, g2, gs, s1, s2, qg⟩ := right_nums hr
  rw [hb] at h
  rw [hg] at hI
  have hqg : ((q * g : Nat) : Int) = (q : Int) * (g : Int) := by push_cast; rfl
  obtain ⟨m, hm⟩ : ∃ m : Int, m = (n + g - 1) / (g : Int) := ⟨_, rfl⟩
  have l1 : 1 ≤ m := by rw [hm]; exact (Int.le_ediv_iff_mul_le (by omega)).2 (by omega)
  have e1 : (n + g - 1) - (n + g - 1) % (g : Int) = m * g := by
    have := Int.mul_ediv_add_emod (n + g - 1) g
    rw [hm, Int.mul_comm]
    omega
  have m0 := Int.emod_nonneg (n + g - 1) (show (g : Int) ≠ 0 by omega)
  have m1 := Int.emod_lt_of_pos (n + g - 1) (show (0 : Int) < g by omega)
  have l2 : m < (q : Int) + 1 := by
    rw [hm]
    refine (Int.ediv_lt_iff_lt_mul (by omega)).2 ?_
    rw [Int.add_mul]
    omega
  refine ⟨g, m.toNat, hg, by omega, by omega, by omega, ?_, ?_, g1, g2, gs, s1, s2, by omega⟩
  · rw [Int.toNat_of_nonneg (by omega)]; omega
  · rw [Int.toNat_of_nonneg (by omega), Int.sub_mul]; omega

/-! slots that are unlike have no byte in common -/
theorem apart_math {g z y : Int} {i j a b : Int} (hij : i < j) (ha : 0 ≤ a) (hz : a + z ≤ g) (hb : 0 ≤ b) (hg : 0 < g) : (i + 1) * g + a + z ≤ (j + 1) * g + b := by
  have h1 : (i + 1 + 1) * g ≤ (j + 1) * g := Int.mul_le_mul_of_nonneg_right (by omega) (by omega)
  have h2 : (i + 1 + 1) * g = (i + 1) * g + g := by rw [Int.add_mul (i + 1) 1]; omega
  omega
theorem sixteen (x : Nat) : x / 16 * 16 = x - x % 16 := by omega

end Go.Proofs.Ytpndfhdedmdoeaa

/-
  What values of cells are, as functions: which pages spans begin at, and when they go up to the end. No program is named here.
-/
namespace Go.Proofs.Ytpndfhdedmdoeaa
open Go.ChangeShapes Go.WideShapes Go.ChangeAt Go.RowKit
set_option linter.unusedVariables false

/-- a right configuration (threads, pages, shift), and values of its cells -/
structure AuH where
  t : Nat
  p : Nat
  s : Nat
  V : Nat → Nat

namespace AuH
variable (H : AuH)
/-- the cell b of the page q -/
def cel (q b : Nat) : Nat := H.V (30 + 4 * H.t + 6 * q + b)
def K (q : Nat) : Int := (infoG (H.cel q 0)).1
def L (q : Nat) : Int := (infoG (H.cel q 0)).2.1
def Cl (q : Nat) : Int := (infoG (H.cel q 0)).2.2.1
def ok (q : Nat) : Bool := (infoG (H.cel q 0)).2.2.2
def ln (q : Nat) : Nat := (H.L q).toNat
theorem info_eq (q : Nat) : infoG (H.cel q 0) = (H.K q, H.L q, H.Cl q, H.ok q) := rfl
theorem infoP_at (q : Nat) : infoP (H.K q) (H.L q) (H.Cl q) := by
  cases hb : H.ok q
  · have h := H.info_eq q
    rw [hb] at h
    exact .inl (infoG_none h)
  · have h := H.info_eq q
    rw [hb] at h
    exact infoB_iff (infoG_back h).1
theorem ok_of (q : Nat) (h : H.K q ≠ 0) : H.ok q = true := by
  cases hb : H.ok q
  · have h2 := H.info_eq q
    rw [hb] at h2
    exact absurd (infoG_none h2).1 h
  · rfl
theorem K_cases (q : Nat) : (H.K q = 0 ∧ H.ln q = 0 ∧ H.Cl q = 0) ∨ ((H.K q = 1 ∨ H.K q = 2) ∧ 1 ≤ H.ln q ∧ H.ln q ≤ 1024 ∧ H.Cl q = 0) ∨ (H.K q = 3 ∧ H.ln q = 1 ∧ 0 ≤ H.Cl q ∧ H.Cl q ≤ 8) := by
  have h := H.infoP_at q
  unfold infoP at h
  unfold ln
  omega
theorem L_ln (q : Nat) : H.L q = (H.ln q : Int) := by
  have h := H.infoP_at q
  unfold infoP at h
  unfold ln
  omega
theorem K_zero (q : Nat) (h : H.cel q 0 = 0) : H.K q = 0 ∧ H.ok q = true := by
  have e : infoG 0 = (0, 0, 0, true) := by decide
  unfold K ok
  rw [h, e]
  exact ⟨rfl, rfl⟩
theorem ln_pos (q : Nat) (h : H.K q ≠ 0) : 1 ≤ H.ln q ∧ H.ln q ≤ 1024 := by
  have := H.K_cases q
  omega

/-- may a span begin at a page, and do its pages be there? -/
def can (q : Nat) : Bool := decide (q < H.p ∧ H.K q ≠ 0 ∧ q + H.ln q ≤ H.p)
def nx (q : Nat) : Nat := q + H.ln q
theorem can_iff (q : Nat) : H.can q = true ↔ q < H.p ∧ H.K q ≠ 0 ∧ q + H.ln q ≤ H.p := by unfold can; exact decide_eq_true_iff
theorem can_no (q : Nat) : H.can q = false ↔ ¬ (q < H.p ∧ H.K q ≠ 0 ∧ q + H.ln q ≤ H.p) := by unfold can; exact decide_eq_false_iff_not
theorem nx_gt {q : Nat} (h : H.can q = true) : q < H.nx q ∧ H.nx q ≤ H.p := by
  have h := (H.can_iff q).1 h
  have := H.ln_pos q h.2.1
  unfold nx
  omega

/-- the pages that one comes to, from one span to the next one -/
inductive At : Nat → Prop where
  | zero : At 0
  | step {q : Nat} : At q → H.can q = true → At (H.nx q)
variable {H}
theorem At.le {q : Nat} (h : H.At q) : q ≤ H.p := by
  cases h with
  | zero => omega
  | step h hc => exact (H.nx_gt hc).2
theorem At.chain : ∀ (n a b : Nat), a + b ≤ n → H.At a → H.At b → a < b → H.can a = true ∧ H.nx a ≤ b := by
  intro n
  induction n with
  | zero => intro a b h _ _ hl; omega
  | succ n ih =>
    intro a b h ha hb hl
    cases hb with
    | zero => omega
    | step hb0 hc =>
      rename_i b0
      have h0 := H.nx_gt hc
      rcases Nat.lt_trichotomy a b0 with h1 | h1 | h1
      · have := ih a b0 (by omega) ha hb0 h1
        exact ⟨this.1, by omega⟩
      · subst h1
        exact ⟨hc, Nat.le_refl _⟩
      · have := ih b0 a (by omega) hb0 ha h1
        omega
theorem At.next {a b : Nat} (ha : H.At a) (hb : H.At b) (h : a < b) : H.can a = true ∧ H.nx a ≤ b := At.chain _ a b (Nat.le_refl _) ha hb h
theorem At.cover {x : Nat} (h : H.At x) : ∀ q, q < x → ∃ a, H.At a ∧ H.can a = true ∧ a ≤ q ∧ q < H.nx a := by
  induction h with
  | zero => intro q hq; omega
  | step h hc ih =>
    rename_i a
    intro q hq
    rcases Nat.lt_or_ge q a with h1 | h1
    · exact ih q h1
    · exact ⟨a, h, hc, h1, hq⟩
variable (H)
/-- is the info of all pages behind a span's first one 0, of the spans ahead of x? -/
def Bare (x : Nat) : Prop := ∀ a, H.At a → H.can a = true → a < x → ∀ q, a < q → q < H.nx a → H.cel q 0 = 0
/-- rule 2 -/
def Tiled : Prop := H.At H.p ∧ H.Bare H.p
variable {H}
theorem Bare.step {a : Nat} (h : H.Bare a) (ha : H.At a) (hb : ∀ q, a < q → q < H.nx a → H.cel q 0 = 0) : H.Bare (H.nx a) := by
  intro b hb1 hb2 hb3 q h1 h2
  rcases Nat.lt_trichotomy b a with h3 | h3 | h3
  · exact h b hb1 hb2 h3 q h1 h2
  · subst h3; exact hb q h1 h2
  · have := (At.next ha hb1 h3).2; omega
theorem not_tiled_end {a : Nat} (ha : H.At a) (hc : H.can a = false) (h : a ≠ H.p) : ¬ H.Tiled := by
  rintro ⟨h1, _⟩
  have := At.next ha h1 (by have := ha.le; omega)
  rw [this.1] at hc
  cases hc
theorem not_tiled_in {a q : Nat} (ha : H.At a) (hc : H.can a = true) (h1 : a < q) (h2 : q < H.nx a) (h : H.cel q 0 ≠ 0) : ¬ H.Tiled := by
  rintro ⟨_, hb⟩
  exact h (hb a ha hc (by have := (H.can_iff a).1 hc; omega) q h1 h2)
theorem tiled_of {a : Nat} (ha : H.At a) (hb : H.Bare a) (h : a = H.p) : H.Tiled := by subst h; exact ⟨ha, hb⟩

/-! what holds of spans that go up to the end -/
theorem Tiled.start (h : H.Tiled) {q : Nat} (hq : q < H.p) (hk : H.K q ≠ 0) : H.At q ∧ H.can q = true := by
  obtain ⟨a, h1, h2, h3, h4⟩ := h.1.cover q hq
  rcases Nat.eq_or_lt_of_le h3 with h5 | h5
  · subst h5; exact ⟨h1, h2⟩
  · exact absurd (H.K_zero q (h.2 a h1 h2 (by omega) q h5 h4)).1 hk
theorem Tiled.at_can (h : H.Tiled) {q : Nat} (ha : H.At q) (hq : q < H.p) : H.can q = true := (At.next ha h.1 hq).1
theorem Tiled.can_eq (h : H.Tiled) {q : Nat} (ha : H.At q) : H.can q = decide (q < H.p) := by
  by_cases hq : q < H.p
  · rw [h.at_can ha hq, decide_eq_true hq]
  · rw [decide_eq_false hq]; exact (H.can_no q).2 (by omega)
theorem Tiled.at_K (h : H.Tiled) {q : Nat} (ha : H.At q) (hq : q < H.p) : H.K q ≠ 0 := ((H.can_iff q).1 (h.at_can ha hq)).2.1
theorem Tiled.inside (h : H.Tiled) {a q : Nat} (ha : H.At a) (h0 : a < H.p) (h1 : a < q) (h2 : q < H.nx a) : H.K q = 0 := (H.K_zero q (h.2 a ha (h.at_can ha h0) h0 q h1 h2)).1
theorem Tiled.cover (h : H.Tiled) {q : Nat} (hq : q < H.p) : ∃ a, H.At a ∧ a < H.p ∧ H.K a ≠ 0 ∧ a ≤ q ∧ q < H.nx a := by
  obtain ⟨a, h1, h2, h3, h4⟩ := h.1.cover q hq
  exact ⟨a, h1, by omega, h.at_K h1 (by omega), h3, h4⟩
/-- what is told of the pages ahead of a span, and of its own first one, is told of the pages ahead of the next span: the others begin none -/
theorem Tiled.step {R : Nat → Prop} (h : H.Tiled) {a : Nat} (ha : H.At a) (h0 : a < H.p) (h1 : ∀ q, q < a → H.K q ≠ 0 → R q) (h2 : R a) : ∀ q, q < H.nx a → H.K q ≠ 0 → R q := by
  intro q hq hk
  rcases Nat.lt_trichotomy q a with h3 | h3 | h3
  · exact h1 q h3 hk
  · subst h3; exact h2
  · exact absurd (h.inside ha h0 h3 hq) hk
/-- a sum over pages, of which only those at which spans begin count -/
def sumTo (f : Nat → Nat) : Nat → Nat
  | 0 => 0
  | n + 1 => sumTo f n + f n
theorem sumTo_skip (f : Nat → Nat) (a : Nat) : ∀ n, (∀ q, a ≤ q → q < a + n → f q = 0) → sumTo f (a + n) = sumTo f a
  | 0, _ => rfl
  | n + 1, h => by
    show sumTo f (a + n) + f (a + n) = _
    rw [sumTo_skip f a n (fun q h1 h2 => h q h1 (by omega)), h (a + n) (by omega) (by omega)]
    omega
theorem Tiled.sum {f : Nat → Nat} (h : H.Tiled) {a : Nat} (ha : H.At a) (h0 : a < H.p) (hf : ∀ q, q < H.p → H.K q = 0 → f q = 0) : sumTo f (H.nx a) = sumTo f a + f a := by
  have h1 := H.ln_pos a (h.at_K ha h0)
  have h2 := (H.nx_gt (h.at_can ha h0)).2
  have e : H.nx a = (a + 1) + (H.ln a - 1) := by unfold nx; omega
  rw [e, sumTo_skip f (a + 1) _ (fun q h3 h4 => hf q (by omega) (h.inside ha h0 (by omega) (by omega)))]
  rfl
theorem sumTo_le (f : Nat → Nat) (m : Nat) : ∀ n, (∀ q, q < n → f q ≤ m) → sumTo f n ≤ n * m
  | 0, _ => by simp [sumTo]
  | n + 1, h => by
    have h1 := sumTo_le f m n (fun q hq => h q (by omega))
    have h2 := h n (by omega)
    show sumTo f n + f n ≤ (n + 1) * m
    rw [Nat.succ_mul]
    omega
/-- a list of what pages give, of which only those at which spans begin give something -/
def catTo {α : Type} (f : Nat → List α) : Nat → List α
  | 0 => []
  | n + 1 => catTo f n ++ f n
theorem catTo_skip {α : Type} (f : Nat → List α) (a : Nat) : ∀ n, (∀ q, a ≤ q → q < a + n → f q = []) → catTo f (a + n) = catTo f a
  | 0, _ => rfl
  | n + 1, h => by
    show catTo f (a + n) ++ f (a + n) = _
    rw [catTo_skip f a n (fun q h1 h2 => h q h1 (by omega)), h (a + n) (by omega) (by omega), List.append_nil]
theorem Tiled.cat {α : Type} {f : Nat → List α} (h : H.Tiled) {a : Nat} (ha : H.At a) (h0 : a < H.p) (hf : ∀ q, q < H.p → H.K q = 0 → f q = []) : catTo f (H.nx a) = catTo f a ++ f a := by
  have h1 := H.ln_pos a (h.at_K ha h0)
  have h2 := (H.nx_gt (h.at_can ha h0)).2
  have e : H.nx a = (a + 1) + (H.ln a - 1) := by unfold nx; omega
  rw [e, catTo_skip f (a + 1) _ (fun q h3 h4 => hf q (by omega) (h.inside ha h0 (by omega) (by omega)))]
  rfl
end AuH

/-! short names for what each step of a drawn region is laid down by -/
theorem gA {α : Type} {xs : List α} {i : Nat} (h : i < xs.toArray.size) : xs.toArray[i] = xs[i]'(by simpa using h) := List.getElem_toArray h
theorem gB {α : Type} (a : α) (l : List α) (h : 0 < (a :: l).length) : (a :: l)[0]'h = a := List.getElem_cons_zero a l h
theorem gC {α : Type} (a : α) (l : List α) (i : Nat) (h : i + 1 < (a :: l).length) : (a :: l)[i + 1]'h = l[i]'(Nat.lt_of_succ_lt_succ h) := List.getElem_cons_succ a l i h
theorem sA {α : Type} (l : List α) (i : Nat) (a : α) : l.toArray.setIfInBounds i a = (l.set i a).toArray := List.setIfInBounds_toArray l i a
theorem sB {α : Type} {x : α} {xs : List α} {a : α} : (x :: xs).set 0 a = a :: xs := List.set_cons_zero
theorem sC {α : Type} {x : α} {xs : List α} {i : Nat} {a : α} : (x :: xs).set (i + 1) a = x :: xs.set i a := List.set_cons_succ
section
variable {P : Program} {ops : Array Oper} {Q : Exit → Act → World → Prop} {md : Region.Mode} {S : World → Prop} {i : Nat} {oi : Oper} {v : Value} {fuel : Nat} {listed : Array Bool} {a : Act} {w : World}
/-- in a drawn region: an operation that yields in every world that meets S comes up first -/
theorem tkO (hi : ops[i]? = some oi) (h3 : (Region.noSelect ops && Region.free md ops listed i && (Region.ready md ops listed).contains i) = true) (hQ : ∀ c a w, Q (.panic c) (a.put oi.dst v) w → Q (.panic c) a w)
    (hw : Region.wanted oi (yielded ops a.tmps) = true) (hy : ∀ w, S w → (execOp a.eval oi).run P w = .ok (.value v) w) (hS : S w) (h : wpAnyH P md ops Q S fuel (listed.setIfInBounds i true) (a.put oi.dst v) w) : wpAnyH P md ops Q S (fuel + 1) listed a w := by
  rw [Bool.and_eq_true, Bool.and_eq_true] at h3
  exact wpAnyH_take hi h3.1.1 h3.1.2 h3.2 hQ (Or.inl ⟨hw, hy⟩) hS h
/-- one that its guard does not want -/
theorem skO (hi : ops[i]? = some oi) (h3 : (Region.noSelect ops && Region.free md ops listed i && (Region.ready md ops listed).contains i) = true) (hQ : ∀ c a w, Q (.panic c) (a.put oi.dst undef) w → Q (.panic c) a w)
    (hw : Region.wanted oi (yielded ops a.tmps) = false) (hS : S w) (h : wpAnyH P md ops Q S fuel (listed.setIfInBounds i true) (a.put oi.dst undef) w) : wpAnyH P md ops Q S (fuel + 1) listed a w := by
  rw [Bool.and_eq_true, Bool.and_eq_true] at h3
  exact wpAnyH_take hi h3.1.1 h3.1.2 h3.2 hQ (Or.inr ⟨hw, rfl⟩) hS h
end
end Go.Proofs.Ytpndfhdedmdoeaa

/-
  What a spot, and a page, of link do. Written by link/gen_page.py.
-/
namespace Go.Proofs.Ytpndfhdedmdoeaa
open Go.ChangeShapes Go.WideShapes Go.ChangeAt Go.RowKit Go.Maps
set_option linter.unusedVariables false
set_option linter.unusedSimpArgs false
set_option maxRecDepth 100000

theorem Held.drw {w : World} {g : Nat} {t : TypeId} {cs : Array Value} (h : Held w g t cs) : Held w.drew g t cs := h
section
variable {w : World} {g : Nat} {t : TypeId} {c0 c1 c2 c3 c4 c5 : Value}
theorem Held.five' (h : Held w g t #[c0, c1, c2, c3, c4]) : w.cell? ⟨g, 0, none⟩ = some c0 ∧ w.cell? ⟨g, 1, none⟩ = some c1 ∧ w.cell? ⟨g, 2, none⟩ = some c2 ∧ w.cell? ⟨g, 3, none⟩ = some c3 ∧ w.cell? ⟨g, 4, none⟩ = some c4 := ⟨h.cell 0, h.cell 1, h.cell 2, h.cell 3, h.cell 4⟩
theorem Held.six' (h : Held w g t #[c0, c1, c2, c3, c4, c5]) : w.cell? ⟨g, 0, none⟩ = some c0 ∧ w.cell? ⟨g, 1, none⟩ = some c1 ∧ w.cell? ⟨g, 2, none⟩ = some c2 ∧ w.cell? ⟨g, 3, none⟩ = some c3 ∧ w.cell? ⟨g, 4, none⟩ = some c4 ∧ w.cell? ⟨g, 5, none⟩ = some c5 := ⟨h.cell 0, h.cell 1, h.cell 2, h.cell 3, h.cell 4, h.cell 5⟩
end

theorem lkIs_c (b : Nat) (t q s hd p : Int) (w : World) :
    Calls Try.prog 61 #[.agg #[.pointer (some ⟨b, 0, none⟩), .int .i64 t, .int .i64 q, .int .i64 s, .int .i64 hd, .int .i64 p]] w fun e w' => e = .returned (.bool (pgB q p)) ∧ Below w.heap.size w w' := by
  have hB := Bnew (B0 w) (.cells #[.pointer (some ⟨b, 0, none⟩), .int .i64 t, .int .i64 q, .int .i64 s, .int .i64 hd, .int .i64 p] 95)
  obtain ⟨x0, x1, x2, x3, x4, x5⟩ := (Held.new w 95 #[.pointer (some ⟨b, 0, none⟩), .int .i64 t, .int .i64 q, .int .i64 s, .int .i64 hd, .int .i64 p]).six'
  unfold pgB
  by_cases h0 : 0 ≤ p
  · have t0 : decide ((0 : Int) ≤ p) = true := decide_eq_true h0
    obtain ⟨c, t1⟩ : ∃ c, decide (p < q) = c := ⟨_, rfl⟩
    rw [t0, t1]
    cases c with
    | true =>
      go_enter Try.func61, Try.ntmps61
      go_wp2
      go_ret
      exact ⟨rfl, hB⟩
    | false =>
      go_enter Try.func61, Try.ntmps61
      go_wp2
      go_ret
      exact ⟨rfl, hB⟩
  · have t0 : decide ((0 : Int) ≤ p) = false := decide_eq_false h0
    rw [t0]
    go_enter Try.func61, Try.ntmps61
    go_wp2
    go_ret
    exact ⟨rfl, hB⟩

theorem lkLink_c (b : Nat) (t q s hd : Int) (k : Nat) (hk : k < 2 ^ 31) (w : World) :
    Calls Try.prog 76 #[.agg #[.pointer (some ⟨b, 0, none⟩), .int .i64 t, .int .i64 q, .int .i64 s, .int .i64 hd, .int .i64 (k : Int)]] w fun e w' => e = .returned (.int .u32 ((k + 1 : Nat) : Int)) ∧ Below w.heap.size w w' := by
  have hB := Bnew (B0 w) (.cells #[.pointer (some ⟨b, 0, none⟩), .int .i64 t, .int .i64 q, .int .i64 s, .int .i64 hd, .int .i64 (k : Int)] 95)
  go_enter Try.func76, Try.ntmps76
  go_wp2
  go_ret
  exact ⟨by simp, hB⟩

set_option maxHeartbeats 1600000 in
theorem lkTo_c (b : Nat) (t q s hd : Int) (l : Nat) (hl : l < 2 ^ 32) (w : World) :
    Calls Try.prog 65 #[.agg #[.pointer (some ⟨b, 0, none⟩), .int .i64 t, .int .i64 q, .int .i64 s, .int .i64 hd], .int .u32 (l : Int)] w fun e w' => e = .returned (.agg #[.pointer (some ⟨b, 0, none⟩), .int .i64 t, .int .i64 q, .int .i64 s, .int .i64 hd, .int .i64 ((l : Int) - 1)]) ∧ Below w.heap.size w w' := by
  go_enter Try.func65, Try.ntmps65
  go_wp2
  have hfin := Held.new2 w (.cells #[.pointer (some ⟨b, 0, none⟩), .int .i64 t, .int .i64 q, .int .i64 s, .int .i64 hd] 93) 95 #[.pointer (some ⟨b, 0, none⟩), .int .i64 t, .int .i64 q, .int .i64 s, .int .i64 hd, .int .i64 ((l : Int) - 1)]
  obtain ⟨r0, r1, r2, r3, r4, r5⟩ := hfin.six'
  refine bodyPost_ret (v := .agg #[.pointer (some ⟨b, 0, none⟩), .int .i64 t, .int .i64 q, .int .i64 s, .int .i64 hd, .int .i64 ((l : Int) - 1)]) (by simp [results, Try.results65, go_sem, r0, r1, r2, r3, r4, r5]) rfl ⟨rfl, ?_⟩
  exact Bnew (Bnew (B0 _) _) _

section
variable {base b n : Nat} {wh : Bool} {K : Nat → Option Nat} {st : Vst} {w w0 : World} {A G : Nat → Prop} {t q s hd p : Int}

theorem lkFirst_c (hn : n < 2 ^ 40) (h : (vOb base b n wh K).At w0 A G st w) :
    Calls Try.prog 75 #[.agg #[.pointer (some ⟨b, 0, none⟩), .int .i64 t, .int .i64 q, .int .i64 s, .int .i64 hd]] w fun e w' => e = .returned (.int .u32 ((getV n K st hd : Nat) : Int)) ∧ (vOb base b n wh K).At w0 A G (getS n K st hd) w' ∧ Stay G w w' := by
  have HA := hidp (h.alloc (.cells #[.pointer (some ⟨b, 0, none⟩), .int .i64 t, .int .i64 q, .int .i64 s, .int .i64 hd] 93))
  have hS : Stay G w (w.alloc (.cells #[.pointer (some ⟨b, 0, none⟩), .int .i64 t, .int .i64 q, .int .i64 s, .int .i64 hd] 93)) := Stay.of_below (Bnew (B0 w) _) G
  clear h
  go_enter Try.func75, Try.ntmps75
  go_wp2_with fail
  refine (vGetA hn hd HA.out).mono ?_
  rintro e w1 ⟨rfl, h1, h2⟩
  go_wp2
  go_ret
  exact ⟨rfl, h1, hS.trans h2⟩

theorem lkSetFirst_c (hn : n < 2 ^ 40) (l : Nat) (hl : l < 2 ^ 32) (h : (vOb base b n wh K).At w0 A G st w) :
    Calls Try.prog 64 #[.agg #[.pointer (some ⟨b, 0, none⟩), .int .i64 t, .int .i64 q, .int .i64 s, .int .i64 hd], .int .u32 (l : Int)] w fun e w' => e = .returned (.tuple #[]) ∧ (vOb base b n wh K).At w0 A G (putS n st hd l) w' ∧ Stay G w w' := by
  have HA := hidp (h.alloc (.cells #[.pointer (some ⟨b, 0, none⟩), .int .i64 t, .int .i64 q, .int .i64 s, .int .i64 hd] 93))
  have hS : Stay G w (w.alloc (.cells #[.pointer (some ⟨b, 0, none⟩), .int .i64 t, .int .i64 q, .int .i64 s, .int .i64 hd] 93)) := Stay.of_below (Bnew (B0 w) _) G
  clear h
  go_enter Try.func64, Try.ntmps64
  go_wp2_with fail
  refine (vPutA hn hd l hl HA.out).mono ?_
  rintro e w1 ⟨rfl, h1, h2⟩
  go_wp2
  go_end0
  exact ⟨rfl, h1, hS.trans h2⟩

set_option maxHeartbeats 1600000 in
theorem lkNext_c (hn : n < 2 ^ 40) (h : (vOb base b n wh K).At w0 A G st w) :
    Calls Try.prog 62 #[.agg #[.pointer (some ⟨b, 0, none⟩), .int .i64 t, .int .i64 q, .int .i64 s, .int .i64 hd, .int .i64 p]] w fun e w' => e = .returned (.int .u32 ((getV n K st (pageI t q s p 2) : Nat) : Int)) ∧ (vOb base b n wh K).At w0 A G (getS n K st (pageI t q s p 2)) w' ∧ Stay G w w' := by
  have HA := hidp (h.box (.cells #[.pointer (some ⟨b, 0, none⟩), .int .i64 t, .int .i64 q, .int .i64 s, .int .i64 hd, .int .i64 p] 95))
  have HC := hidp (Held.new w 95 #[.pointer (some ⟨b, 0, none⟩), .int .i64 t, .int .i64 q, .int .i64 s, .int .i64 hd, .int .i64 p])
  have HS := hidp (Stay.of_below (Bnew (B0 w) (.cells #[.pointer (some ⟨b, 0, none⟩), .int .i64 t, .int .i64 q, .int .i64 s, .int .i64 hd, .int .i64 p] 95)) G)
  clear h
  go_enter Try.func62, Try.ntmps62
  go_wp2_with fail
  refine wp_region_held_drew (S := (fun w' => w'.cell? ⟨w.heap.size, 0, none⟩ = some (.pointer (some ⟨b, 0, none⟩)) ∧ w'.cell? ⟨w.heap.size, 1, none⟩ = some (.int .i64 t) ∧ w'.cell? ⟨w.heap.size, 2, none⟩ = some (.int .i64 q) ∧ w'.cell? ⟨w.heap.size, 3, none⟩ = some (.int .i64 s) ∧ w'.cell? ⟨w.heap.size, 4, none⟩ = some (.int .i64 hd) ∧ w'.cell? ⟨w.heap.size, 5, none⟩ = some (.int .i64 p))) (by kernel_rfl) ?_ (fun hHeld => ?_)
  · (try dsimp only)
    first | exact HC.out.drw.six' | exact HC1.out.six' | exact HC2.out.six' | exact hHeld
  refine tkO (i := 0) (v := ?_) rfl (by kernel_rfl) (fun _ _ _ h => h) (by rfl) ?_ (by assumption) ?_
  rotate_left
  · intro w hSw; (try dsimp only at hSw); go_simp; (try with_reducible rfl)
  (try simp only [Act.put, gA, gB, gC, sA, sB, sC])
  refine tkO (i := 1) (v := ?_) rfl (by kernel_rfl) (fun _ _ _ h => h) (by rfl) ?_ (by assumption) ?_
  rotate_left
  · intro w hSw; (try dsimp only at hSw); go_simp; (try with_reducible rfl)
  (try simp only [Act.put, gA, gB, gC, sA, sB, sC])
  refine tkO (i := 2) (v := ?_) rfl (by kernel_rfl) (fun _ _ _ h => h) (by rfl) ?_ (by assumption) ?_
  rotate_left
  · intro w hSw; (try dsimp only at hSw); go_simp; (try with_reducible rfl)
  (try simp only [Act.put, gA, gB, gC, sA, sB, sC])
  refine tkO (i := 3) (v := ?_) rfl (by kernel_rfl) (fun _ _ _ h => h) (by rfl) ?_ (by assumption) ?_
  rotate_left
  · intro w hSw; (try dsimp only at hSw); go_simp; (try with_reducible rfl)
  (try simp only [Act.put, gA, gB, gC, sA, sB, sC])
  refine tkO (i := 4) (v := ?_) rfl (by kernel_rfl) (fun _ _ _ h => h) (by rfl) ?_ (by assumption) ?_
  rotate_left
  · intro w hSw; (try dsimp only at hSw); go_simp; (try with_reducible rfl)
  (try simp only [Act.put, gA, gB, gC, sA, sB, sC])
  refine tkO (i := 5) (v := ?_) rfl (by kernel_rfl) (fun _ _ _ h => h) (by rfl) ?_ (by assumption) ?_
  rotate_left
  · intro w hSw; (try dsimp only at hSw); go_simp; (try with_reducible rfl)
  (try simp only [Act.put, gA, gB, gC, sA, sB, sC])
  refine tkO (i := 6) (v := ?_) rfl (by kernel_rfl) (fun _ _ _ h => h) (by rfl) ?_ (by assumption) ?_
  rotate_left
  · intro w hSw; (try dsimp only at hSw); go_simp; (try with_reducible rfl)
  (try simp only [Act.put, gA, gB, gC, sA, sB, sC])
  refine tkO (i := 7) (v := ?_) rfl (by kernel_rfl) (fun _ _ _ h => h) (by rfl) ?_ (by assumption) ?_
  rotate_left
  · intro w hSw; (try dsimp only at hSw); go_simp; (try with_reducible rfl)
  (try simp only [Act.put, gA, gB, gC, sA, sB, sC])
  refine wpAnyH_ready (rs := [8]) (by kernel_rfl) (by simp) ?_
  refine AllReadyH.cons (o := _) rfl (fun K hK => ?_) AllReadyH.nil
  go_simp
  refine (plNext_c _ _ _ _ _).mono ?_; rintro e w1 ⟨rfl, hb1⟩; have HA1 := hidp (HA.out.drew.keep hb1); have HC1 := hidp (HC.out.drw.keep hb1); have HS1 := hidp ((HS.out.trans (Stay.of_below (Bdrew (B0 _)) _)).trans (Stay.of_below hb1 _)); clear HA HC HS hb1
  refine hK.out _ _ ?_ (fun hHeld => ?_)
  · (try dsimp only)
    first | exact HC.out.drw.six' | exact HC1.out.six' | exact HC2.out.six' | exact hHeld
  clear hK K
  (try simp only [Act.put, gA, gB, gC, sA, sB, sC])
  refine wpAnyH_ready (rs := [9]) (by kernel_rfl) (by simp) ?_
  refine AllReadyH.cons (o := _) rfl (fun K hK => ?_) AllReadyH.nil
  go_simp
  refine (vGetA hn _ HA1.out).mono ?_; rintro e w2 ⟨rfl, h1, h2⟩; have HA2 := hidp (h1.less fun g x => Or.inl x); have HC2 := hidp (h2.held (Or.inr rfl) HC1.out); have HS2 := hidp (HS1.out.trans (h2.less fun g x => Or.inl x)); clear HA1 HC1 HS1 h1 h2
  refine hK.out _ _ ?_ (fun hHeld => ?_)
  · (try dsimp only)
    first | exact HC.out.drw.six' | exact HC1.out.six' | exact HC2.out.six' | exact hHeld
  clear hK K
  (try simp only [Act.put, gA, gB, gC, sA, sB, sC])
  refine tkO (i := 10) (v := ?_) rfl (by kernel_rfl) (fun _ _ _ h => h) (by rfl) ?_ (by assumption) ?_
  rotate_left
  · intro w hSw; (try dsimp only at hSw); go_simp; (try with_reducible rfl)
  (try simp only [Act.put, gA, gB, gC, sA, sB, sC])
  refine wpAnyH_done (by kernel_rfl) ?_ _
  go_wp2
  go_ret
  exact ⟨rfl, HA2.out, HS2.out⟩

set_option maxHeartbeats 1600000 in
theorem lkSetNext_c (hn : n < 2 ^ 40) (l : Nat) (hl : l < 2 ^ 32) (h : (vOb base b n wh K).At w0 A G st w) :
    Calls Try.prog 66 #[.agg #[.pointer (some ⟨b, 0, none⟩), .int .i64 t, .int .i64 q, .int .i64 s, .int .i64 hd, .int .i64 p], .int .u32 (l : Int)] w fun e w' => e = .returned (.tuple #[]) ∧ (vOb base b n wh K).At w0 A G (putS n st (pageI t q s p 2) l) w' ∧ Stay G w w' := by
  have HA := hidp (h.box (.cells #[.pointer (some ⟨b, 0, none⟩), .int .i64 t, .int .i64 q, .int .i64 s, .int .i64 hd, .int .i64 p] 95))
  have HC := hidp (Held.new w 95 #[.pointer (some ⟨b, 0, none⟩), .int .i64 t, .int .i64 q, .int .i64 s, .int .i64 hd, .int .i64 p])
  have HS := hidp (Stay.of_below (Bnew (B0 w) (.cells #[.pointer (some ⟨b, 0, none⟩), .int .i64 t, .int .i64 q, .int .i64 s, .int .i64 hd, .int .i64 p] 95)) G)
  clear h
  go_enter Try.func66, Try.ntmps66
  go_wp2_with fail
  refine wp_region_held_drew (S := (fun w' => w'.cell? ⟨w.heap.size, 0, none⟩ = some (.pointer (some ⟨b, 0, none⟩)) ∧ w'.cell? ⟨w.heap.size, 1, none⟩ = some (.int .i64 t) ∧ w'.cell? ⟨w.heap.size, 2, none⟩ = some (.int .i64 q) ∧ w'.cell? ⟨w.heap.size, 3, none⟩ = some (.int .i64 s) ∧ w'.cell? ⟨w.heap.size, 4, none⟩ = some (.int .i64 hd) ∧ w'.cell? ⟨w.heap.size, 5, none⟩ = some (.int .i64 p))) (by kernel_rfl) ?_ (fun hHeld => ?_)
  · (try dsimp only)
    first | exact HC.out.drw.six' | exact HC1.out.six' | exact HC2.out.six' | exact hHeld
  refine tkO (i := 0) (v := ?_) rfl (by kernel_rfl) (fun _ _ _ h => h) (by rfl) ?_ (by assumption) ?_
  rotate_left
  · intro w hSw; (try dsimp only at hSw); go_simp; (try with_reducible rfl)
  (try simp only [Act.put, gA, gB, gC, sA, sB, sC])
  refine tkO (i := 1) (v := ?_) rfl (by kernel_rfl) (fun _ _ _ h => h) (by rfl) ?_ (by assumption) ?_
  rotate_left
  · intro w hSw; (try dsimp only at hSw); go_simp; (try with_reducible rfl)
  (try simp only [Act.put, gA, gB, gC, sA, sB, sC])
  refine tkO (i := 2) (v := ?_) rfl (by kernel_rfl) (fun _ _ _ h => h) (by rfl) ?_ (by assumption) ?_
  rotate_left
  · intro w hSw; (try dsimp only at hSw); go_simp; (try with_reducible rfl)
  (try simp only [Act.put, gA, gB, gC, sA, sB, sC])
  refine tkO (i := 3) (v := ?_) rfl (by kernel_rfl) (fun _ _ _ h => h) (by rfl) ?_ (by assumption) ?_
  rotate_left
  · intro w hSw; (try dsimp only at hSw); go_simp; (try with_reducible rfl)
  (try simp only [Act.put, gA, gB, gC, sA, sB, sC])
  refine tkO (i := 4) (v := ?_) rfl (by kernel_rfl) (fun _ _ _ h => h) (by rfl) ?_ (by assumption) ?_
  rotate_left
  · intro w hSw; (try dsimp only at hSw); go_simp; (try with_reducible rfl)
  (try simp only [Act.put, gA, gB, gC, sA, sB, sC])
  refine tkO (i := 5) (v := ?_) rfl (by kernel_rfl) (fun _ _ _ h => h) (by rfl) ?_ (by assumption) ?_
  rotate_left
  · intro w hSw; (try dsimp only at hSw); go_simp; (try with_reducible rfl)
  (try simp only [Act.put, gA, gB, gC, sA, sB, sC])
  refine tkO (i := 6) (v := ?_) rfl (by kernel_rfl) (fun _ _ _ h => h) (by rfl) ?_ (by assumption) ?_
  rotate_left
  · intro w hSw; (try dsimp only at hSw); go_simp; (try with_reducible rfl)
  (try simp only [Act.put, gA, gB, gC, sA, sB, sC])
  refine tkO (i := 7) (v := ?_) rfl (by kernel_rfl) (fun _ _ _ h => h) (by rfl) ?_ (by assumption) ?_
  rotate_left
  · intro w hSw; (try dsimp only at hSw); go_simp; (try with_reducible rfl)
  (try simp only [Act.put, gA, gB, gC, sA, sB, sC])
  refine tkO (i := 9) (v := ?_) rfl (by kernel_rfl) (fun _ _ _ h => h) (by rfl) ?_ (by assumption) ?_
  rotate_left
  · intro w hSw; (try dsimp only at hSw); go_simp; (try with_reducible rfl)
  (try simp only [Act.put, gA, gB, gC, sA, sB, sC])
  refine wpAnyH_ready (rs := [8]) (by kernel_rfl) (by simp) ?_
  refine AllReadyH.cons (o := _) rfl (fun K hK => ?_) AllReadyH.nil
  go_simp
  refine (plNext_c _ _ _ _ _).mono ?_; rintro e w1 ⟨rfl, hb1⟩; have HA1 := hidp (HA.out.drew.keep hb1); have HC1 := hidp (HC.out.drw.keep hb1); have HS1 := hidp ((HS.out.trans (Stay.of_below (Bdrew (B0 _)) _)).trans (Stay.of_below hb1 _)); clear HA HC HS hb1
  refine hK.out _ _ ?_ (fun hHeld => ?_)
  · (try dsimp only)
    first | exact HC.out.drw.six' | exact HC1.out.six' | exact HC2.out.six' | exact hHeld
  clear hK K
  (try simp only [Act.put, gA, gB, gC, sA, sB, sC])
  refine wpAnyH_ready (rs := [10]) (by kernel_rfl) (by simp) ?_
  refine AllReadyH.cons (o := _) rfl (fun K hK => ?_) AllReadyH.nil
  go_simp
  refine (vPutA hn _ l hl HA1.out).mono ?_; rintro e w2 ⟨rfl, h1, h2⟩; have HA2 := hidp (h1.less fun g x => Or.inl x); have HC2 := hidp (h2.held (Or.inr rfl) HC1.out); have HS2 := hidp (HS1.out.trans (h2.less fun g x => Or.inl x)); clear HA1 HC1 HS1 h1 h2
  refine hK.out _ _ ?_ (fun hHeld => ?_)
  · (try dsimp only)
    first | exact HC.out.drw.six' | exact HC1.out.six' | exact HC2.out.six' | exact hHeld
  clear hK K
  (try simp only [Act.put, gA, gB, gC, sA, sB, sC])
  refine wpAnyH_done (by kernel_rfl) ?_ _
  go_wp2
  go_end0
  exact ⟨rfl, HA2.out, HS2.out⟩

set_option maxHeartbeats 1600000 in
theorem lkPrev_c (hn : n < 2 ^ 40) (h : (vOb base b n wh K).At w0 A G st w) :
    Calls Try.prog 63 #[.agg #[.pointer (some ⟨b, 0, none⟩), .int .i64 t, .int .i64 q, .int .i64 s, .int .i64 hd, .int .i64 p]] w fun e w' => e = .returned (.int .u32 ((getV n K st (pageI t q s p 3) : Nat) : Int)) ∧ (vOb base b n wh K).At w0 A G (getS n K st (pageI t q s p 3)) w' ∧ Stay G w w' := by
  have HA := hidp (h.box (.cells #[.pointer (some ⟨b, 0, none⟩), .int .i64 t, .int .i64 q, .int .i64 s, .int .i64 hd, .int .i64 p] 95))
  have HC := hidp (Held.new w 95 #[.pointer (some ⟨b, 0, none⟩), .int .i64 t, .int .i64 q, .int .i64 s, .int .i64 hd, .int .i64 p])
  have HS := hidp (Stay.of_below (Bnew (B0 w) (.cells #[.pointer (some ⟨b, 0, none⟩), .int .i64 t, .int .i64 q, .int .i64 s, .int .i64 hd, .int .i64 p] 95)) G)
  clear h
  go_enter Try.func63, Try.ntmps63
  go_wp2_with fail
  refine wp_region_held_drew (S := (fun w' => w'.cell? ⟨w.heap.size, 0, none⟩ = some (.pointer (some ⟨b, 0, none⟩)) ∧ w'.cell? ⟨w.heap.size, 1, none⟩ = some (.int .i64 t) ∧ w'.cell? ⟨w.heap.size, 2, none⟩ = some (.int .i64 q) ∧ w'.cell? ⟨w.heap.size, 3, none⟩ = some (.int .i64 s) ∧ w'.cell? ⟨w.heap.size, 4, none⟩ = some (.int .i64 hd) ∧ w'.cell? ⟨w.heap.size, 5, none⟩ = some (.int .i64 p))) (by kernel_rfl) ?_ (fun hHeld => ?_)
  · (try dsimp only)
    first | exact HC.out.drw.six' | exact HC1.out.six' | exact HC2.out.six' | exact hHeld
  refine tkO (i := 0) (v := ?_) rfl (by kernel_rfl) (fun _ _ _ h => h) (by rfl) ?_ (by assumption) ?_
  rotate_left
  · intro w hSw; (try dsimp only at hSw); go_simp; (try with_reducible rfl)
  (try simp only [Act.put, gA, gB, gC, sA, sB, sC])
  refine tkO (i := 1) (v := ?_) rfl (by kernel_rfl) (fun _ _ _ h => h) (by rfl) ?_ (by assumption) ?_
  rotate_left
  · intro w hSw; (try dsimp only at hSw); go_simp; (try with_reducible rfl)
  (try simp only [Act.put, gA, gB, gC, sA, sB, sC])
  refine tkO (i := 2) (v := ?_) rfl (by kernel_rfl) (fun _ _ _ h => h) (by rfl) ?_ (by assumption) ?_
  rotate_left
  · intro w hSw; (try dsimp only at hSw); go_simp; (try with_reducible rfl)
  (try simp only [Act.put, gA, gB, gC, sA, sB, sC])
  refine tkO (i := 3) (v := ?_) rfl (by kernel_rfl) (fun _ _ _ h => h) (by rfl) ?_ (by assumption) ?_
  rotate_left
  · intro w hSw; (try dsimp only at hSw); go_simp; (try with_reducible rfl)
  (try simp only [Act.put, gA, gB, gC, sA, sB, sC])
  refine tkO (i := 4) (v := ?_) rfl (by kernel_rfl) (fun _ _ _ h => h) (by rfl) ?_ (by assumption) ?_
  rotate_left
  · intro w hSw; (try dsimp only at hSw); go_simp; (try with_reducible rfl)
  (try simp only [Act.put, gA, gB, gC, sA, sB, sC])
  refine tkO (i := 5) (v := ?_) rfl (by kernel_rfl) (fun _ _ _ h => h) (by rfl) ?_ (by assumption) ?_
  rotate_left
  · intro w hSw; (try dsimp only at hSw); go_simp; (try with_reducible rfl)
  (try simp only [Act.put, gA, gB, gC, sA, sB, sC])
  refine tkO (i := 6) (v := ?_) rfl (by kernel_rfl) (fun _ _ _ h => h) (by rfl) ?_ (by assumption) ?_
  rotate_left
  · intro w hSw; (try dsimp only at hSw); go_simp; (try with_reducible rfl)
  (try simp only [Act.put, gA, gB, gC, sA, sB, sC])
  refine tkO (i := 7) (v := ?_) rfl (by kernel_rfl) (fun _ _ _ h => h) (by rfl) ?_ (by assumption) ?_
  rotate_left
  · intro w hSw; (try dsimp only at hSw); go_simp; (try with_reducible rfl)
  (try simp only [Act.put, gA, gB, gC, sA, sB, sC])
  refine wpAnyH_ready (rs := [8]) (by kernel_rfl) (by simp) ?_
  refine AllReadyH.cons (o := _) rfl (fun K hK => ?_) AllReadyH.nil
  go_simp
  refine (plPrev_c _ _ _ _ _).mono ?_; rintro e w1 ⟨rfl, hb1⟩; have HA1 := hidp (HA.out.drew.keep hb1); have HC1 := hidp (HC.out.drw.keep hb1); have HS1 := hidp ((HS.out.trans (Stay.of_below (Bdrew (B0 _)) _)).trans (Stay.of_below hb1 _)); clear HA HC HS hb1
  refine hK.out _ _ ?_ (fun hHeld => ?_)
  · (try dsimp only)
    first | exact HC.out.drw.six' | exact HC1.out.six' | exact HC2.out.six' | exact hHeld
  clear hK K
  (try simp only [Act.put, gA, gB, gC, sA, sB, sC])
  refine wpAnyH_ready (rs := [9]) (by kernel_rfl) (by simp) ?_
  refine AllReadyH.cons (o := _) rfl (fun K hK => ?_) AllReadyH.nil
  go_simp
  refine (vGetA hn _ HA1.out).mono ?_; rintro e w2 ⟨rfl, h1, h2⟩; have HA2 := hidp (h1.less fun g x => Or.inl x); have HC2 := hidp (h2.held (Or.inr rfl) HC1.out); have HS2 := hidp (HS1.out.trans (h2.less fun g x => Or.inl x)); clear HA1 HC1 HS1 h1 h2
  refine hK.out _ _ ?_ (fun hHeld => ?_)
  · (try dsimp only)
    first | exact HC.out.drw.six' | exact HC1.out.six' | exact HC2.out.six' | exact hHeld
  clear hK K
  (try simp only [Act.put, gA, gB, gC, sA, sB, sC])
  refine tkO (i := 10) (v := ?_) rfl (by kernel_rfl) (fun _ _ _ h => h) (by rfl) ?_ (by assumption) ?_
  rotate_left
  · intro w hSw; (try dsimp only at hSw); go_simp; (try with_reducible rfl)
  (try simp only [Act.put, gA, gB, gC, sA, sB, sC])
  refine wpAnyH_done (by kernel_rfl) ?_ _
  go_wp2
  go_ret
  exact ⟨rfl, HA2.out, HS2.out⟩

set_option maxHeartbeats 1600000 in
theorem lkSetPrev_c (hn : n < 2 ^ 40) (l : Nat) (hl : l < 2 ^ 32) (h : (vOb base b n wh K).At w0 A G st w) :
    Calls Try.prog 67 #[.agg #[.pointer (some ⟨b, 0, none⟩), .int .i64 t, .int .i64 q, .int .i64 s, .int .i64 hd, .int .i64 p], .int .u32 (l : Int)] w fun e w' => e = .returned (.tuple #[]) ∧ (vOb base b n wh K).At w0 A G (putS n st (pageI t q s p 3) l) w' ∧ Stay G w w' := by
  have HA := hidp (h.box (.cells #[.pointer (some ⟨b, 0, none⟩), .int .i64 t, .int .i64 q, .int .i64 s, .int .i64 hd, .int .i64 p] 95))
  have HC := hidp (Held.new w 95 #[.pointer (some ⟨b, 0, none⟩), .int .i64 t, .int .i64 q, .int .i64 s, .int .i64 hd, .int .i64 p])
  have HS := hidp (Stay.of_below (Bnew (B0 w) (.cells #[.pointer (some ⟨b, 0, none⟩), .int .i64 t, .int .i64 q, .int .i64 s, .int .i64 hd, .int .i64 p] 95)) G)
  clear h
  go_enter Try.func67, Try.ntmps67
  go_wp2_with fail
  refine wp_region_held_drew (S := (fun w' => w'.cell? ⟨w.heap.size, 0, none⟩ = some (.pointer (some ⟨b, 0, none⟩)) ∧ w'.cell? ⟨w.heap.size, 1, none⟩ = some (.int .i64 t) ∧ w'.cell? ⟨w.heap.size, 2, none⟩ = some (.int .i64 q) ∧ w'.cell? ⟨w.heap.size, 3, none⟩ = some (.int .i64 s) ∧ w'.cell? ⟨w.heap.size, 4, none⟩ = some (.int .i64 hd) ∧ w'.cell? ⟨w.heap.size, 5, none⟩ = some (.int .i64 p))) (by kernel_rfl) ?_ (fun hHeld => ?_)
  · (try dsimp only)
    first | exact HC.out.drw.six' | exact HC1.out.six' | exact HC2.out.six' | exact hHeld
  refine tkO (i := 0) (v := ?_) rfl (by kernel_rfl) (fun _ _ _ h => h) (by rfl) ?_ (by assumption) ?_
  rotate_left
  · intro w hSw; (try dsimp only at hSw); go_simp; (try with_reducible rfl)
  (try simp only [Act.put, gA, gB, gC, sA, sB, sC])
  refine tkO (i := 1) (v := ?_) rfl (by kernel_rfl) (fun _ _ _ h => h) (by rfl) ?_ (by assumption) ?_
  rotate_left
  · intro w hSw; (try dsimp only at hSw); go_simp; (try with_reducible rfl)
  (try simp only [Act.put, gA, gB, gC, sA, sB, sC])
  refine tkO (i := 2) (v := ?_) rfl (by kernel_rfl) (fun _ _ _ h => h) (by rfl) ?_ (by assumption) ?_
  rotate_left
  · intro w hSw; (try dsimp only at hSw); go_simp; (try with_reducible rfl)
  (try simp only [Act.put, gA, gB, gC, sA, sB, sC])
  refine tkO (i := 3) (v := ?_) rfl (by kernel_rfl) (fun _ _ _ h => h) (by rfl) ?_ (by assumption) ?_
  rotate_left
  · intro w hSw; (try dsimp only at hSw); go_simp; (try with_reducible rfl)
  (try simp only [Act.put, gA, gB, gC, sA, sB, sC])
  refine tkO (i := 4) (v := ?_) rfl (by kernel_rfl) (fun _ _ _ h => h) (by rfl) ?_ (by assumption) ?_
  rotate_left
  · intro w hSw; (try dsimp only at hSw); go_simp; (try with_reducible rfl)
  (try simp only [Act.put, gA, gB, gC, sA, sB, sC])
  refine tkO (i := 5) (v := ?_) rfl (by kernel_rfl) (fun _ _ _ h => h) (by rfl) ?_ (by assumption) ?_
  rotate_left
  · intro w hSw; (try dsimp only at hSw); go_simp; (try with_reducible rfl)
  (try simp only [Act.put, gA, gB, gC, sA, sB, sC])
  refine tkO (i := 6) (v := ?_) rfl (by kernel_rfl) (fun _ _ _ h => h) (by rfl) ?_ (by assumption) ?_
  rotate_left
  · intro w hSw; (try dsimp only at hSw); go_simp; (try with_reducible rfl)
  (try simp only [Act.put, gA, gB, gC, sA, sB, sC])
  refine tkO (i := 7) (v := ?_) rfl (by kernel_rfl) (fun _ _ _ h => h) (by rfl) ?_ (by assumption) ?_
  rotate_left
  · intro w hSw; (try dsimp only at hSw); go_simp; (try with_reducible rfl)
  (try simp only [Act.put, gA, gB, gC, sA, sB, sC])
  refine tkO (i := 9) (v := ?_) rfl (by kernel_rfl) (fun _ _ _ h => h) (by rfl) ?_ (by assumption) ?_
  rotate_left
  · intro w hSw; (try dsimp only at hSw); go_simp; (try with_reducible rfl)
  (try simp only [Act.put, gA, gB, gC, sA, sB, sC])
  refine wpAnyH_ready (rs := [8]) (by kernel_rfl) (by simp) ?_
  refine AllReadyH.cons (o := _) rfl (fun K hK => ?_) AllReadyH.nil
  go_simp
  refine (plPrev_c _ _ _ _ _).mono ?_; rintro e w1 ⟨rfl, hb1⟩; have HA1 := hidp (HA.out.drew.keep hb1); have HC1 := hidp (HC.out.drw.keep hb1); have HS1 := hidp ((HS.out.trans (Stay.of_below (Bdrew (B0 _)) _)).trans (Stay.of_below hb1 _)); clear HA HC HS hb1
  refine hK.out _ _ ?_ (fun hHeld => ?_)
  · (try dsimp only)
    first | exact HC.out.drw.six' | exact HC1.out.six' | exact HC2.out.six' | exact hHeld
  clear hK K
  (try simp only [Act.put, gA, gB, gC, sA, sB, sC])
  refine wpAnyH_ready (rs := [10]) (by kernel_rfl) (by simp) ?_
  refine AllReadyH.cons (o := _) rfl (fun K hK => ?_) AllReadyH.nil
  go_simp
  refine (vPutA hn _ l hl HA1.out).mono ?_; rintro e w2 ⟨rfl, h1, h2⟩; have HA2 := hidp (h1.less fun g x => Or.inl x); have HC2 := hidp (h2.held (Or.inr rfl) HC1.out); have HS2 := hidp (HS1.out.trans (h2.less fun g x => Or.inl x)); clear HA1 HC1 HS1 h1 h2
  refine hK.out _ _ ?_ (fun hHeld => ?_)
  · (try dsimp only)
    first | exact HC.out.drw.six' | exact HC1.out.six' | exact HC2.out.six' | exact hHeld
  clear hK K
  (try simp only [Act.put, gA, gB, gC, sA, sB, sC])
  refine wpAnyH_done (by kernel_rfl) ?_ _
  go_wp2
  go_end0
  exact ⟨rfl, HA2.out, HS2.out⟩

end
end Go.Proofs.Ytpndfhdedmdoeaa

/-
  What link.Push, and link.Pull, do. Written by link/gen_push.py.
-/
namespace Go.Proofs.Ytpndfhdedmdoeaa
open Go.ChangeShapes Go.WideShapes Go.ChangeAt Go.RowKit Go.Maps
set_option linter.unusedVariables false
set_option linter.unusedSimpArgs false
set_option maxRecDepth 100000

section
variable {base b n : Nat} {wh : Bool} {K : Nat → Option Nat} {st : Vst} {w w0 : World} {A G : Nat → Prop} {t q s hd : Int}

theorem lkPush_no (hn : n < 2 ^ 40) (p : Int) (hp : pgB q p = false) (h : (vOb base b n wh K).At w0 A G st w) :
    Calls Try.prog 40 #[.pointer (some ⟨b, 0, none⟩), .agg #[.int .i64 t, .int .i64 q, .int .i64 s], .int .i64 hd, .int .i64 p] w fun e w' => e = .returned (.tuple #[]) ∧ (vOb base b n wh K).At w0 A G (st) w' ∧ Stay G w w' := by
  have W0 := hidp (WK.two h (.cells #[.int .i64 t, .int .i64 q, .int .i64 s] 23) 95 #[.pointer (some ⟨b, 0, none⟩), .int .i64 t, .int .i64 q, .int .i64 s, .int .i64 hd, .int .i64 p])
  obtain ⟨x0, x1, x2, x3, x4, x5⟩ := W0.out.held.six'
  have HK := hidp hp
  clear h hp
  go_enter Try.func40, Try.ntmps40
  go_wp2_with fail
  refine (lkIs_c b t q s hd p _).mono ?_; rintro e w1 ⟨rfl, hb⟩; rw [HK.out]; have W1 := hidp (W0.out.keep hb); clear hb W0
  go_wp2
  (try simp only [Exit.inBlock, Exit.then])
  refine bodyPost_ret (results_none rfl _ _ _) rfl ?_
  exact ⟨rfl, W1.out.fin⟩

set_option maxHeartbeats 3200000 in
theorem lkPush_yes (hn : n < 2 ^ 40) (k : Nat) (hk : pgB q (k : Int) = true) (hk31 : k < 2 ^ 31) (h : (vOb base b n wh K).At w0 A G st w) :
    Calls Try.prog 40 #[.pointer (some ⟨b, 0, none⟩), .agg #[.int .i64 t, .int .i64 q, .int .i64 s], .int .i64 hd, .int .i64 (k : Int)] w fun e w' => e = .returned (.tuple #[]) ∧ (vOb base b n wh K).At w0 A G (pushS n K t q s hd k st) w' ∧ Stay G w w' := by
  have W0 := hidp (WK.two h (.cells #[.int .i64 t, .int .i64 q, .int .i64 s] 23) 95 #[.pointer (some ⟨b, 0, none⟩), .int .i64 t, .int .i64 q, .int .i64 s, .int .i64 hd, .int .i64 (k : Int)])
  obtain ⟨x0, x1, x2, x3, x4, x5⟩ := W0.out.held.six'
  have HK := hidp hk
  obtain ⟨l, hl⟩ : ∃ l, getV n K st hd = l := ⟨_, rfl⟩
  have hl32 : l < 2 ^ 32 := by rw [← hl]; exact vAt_lt h hd
  have HL := hidp hl
  have HQ : Hid (push1 n K t q s hd k st = putS n (putS n (getS n K st hd) (pageI t q s (k : Int) 2) l) (pageI t q s (k : Int) 3) 0) := hidp (by unfold push1; rw [hl])
  have HP : Hid (l = 0 → pushS n K t q s hd k st = putS n (push1 n K t q s hd k st) hd (k + 1)) := hidp (fun e => by unfold pushS push2; rw [if_pos (hl.trans e)])
  have HR : Hid (l ≠ 0 → pushS n K t q s hd k st = putS n (putS n (push1 n K t q s hd k st) (pageI t q s ((l : Int) - 1) 3) (k + 1)) hd (k + 1)) := hidp (fun e => by unfold pushS push2; rw [if_neg (by rw [hl]; exact e), hl])
  clear hl
  clear h hk
  go_enter Try.func40, Try.ntmps40
  go_wp2_with fail
  refine (lkIs_c b t q s hd k _).mono ?_; rintro e w1 ⟨rfl, hb⟩; have W1 := hidp (W0.out.keep hb); clear hb W0; rw [HK.out]
  obtain ⟨x0, x1, x2, x3, x4, x5⟩ := W1.out.held.six'
  go_wp2_with fail
  refine (lkFirst_c hn W1.out.at_).mono ?_; rintro e w2 ⟨rfl, h1, h2⟩; have W2 := hidp (W1.out.call h1 h2); clear h1 h2 W1; rw [HL.out]
  obtain ⟨x0, x1, x2, x3, x4, x5⟩ := W2.out.held.six'
  go_wp2_with fail
  refine (lkSetNext_c hn l hl32 W2.out.at_).mono ?_; rintro e w3 ⟨rfl, h1, h2⟩; have W3 := hidp (W2.out.call h1 h2); clear h1 h2 W2
  obtain ⟨x0, x1, x2, x3, x4, x5⟩ := W3.out.held.six'
  go_wp2_with fail
  refine (lkSetPrev_c hn 0 (by omega) W3.out.at_).mono ?_; rintro e w4 ⟨rfl, h1, h2⟩; have W4 := hidp (W3.out.call h1 h2); clear h1 h2 W3
  obtain ⟨x0, x1, x2, x3, x4, x5⟩ := W4.out.held.six'
  rw [← HQ.out] at W4
  clear HL HQ HK
  by_cases hz : l = 0
  · have HE := hidp (HP.out hz)
    subst hz
    clear HP HR
    go_wp2_with fail
    refine wp_region_held_drew (S := (fun w' => w'.cell? ⟨w.heap.size + 1, 0, none⟩ = some (.pointer (some ⟨b, 0, none⟩)) ∧ w'.cell? ⟨w.heap.size + 1, 1, none⟩ = some (.int .i64 t) ∧ w'.cell? ⟨w.heap.size + 1, 2, none⟩ = some (.int .i64 q) ∧ w'.cell? ⟨w.heap.size + 1, 3, none⟩ = some (.int .i64 s) ∧ w'.cell? ⟨w.heap.size + 1, 4, none⟩ = some (.int .i64 hd) ∧ w'.cell? ⟨w.heap.size + 1, 5, none⟩ = some (.int .i64 (k : Int)))) (by kernel_rfl) ?_ (fun hHeld => ?_)
    · (try dsimp only)
      first | exact W4.out.drew.held.six' | exact W5.out.held.six' | exact W6.out.held.six' | exact hHeld
    refine tkO (i := 0) (v := ?_) rfl (by kernel_rfl) (fun _ _ _ h => h) (by rfl) ?_ (by assumption) ?_
    rotate_left
    · intro w hSw; (try dsimp only at hSw); go_simp; (try with_reducible rfl)
    (try simp only [Act.put, gA, gB, gC, sA, sB, sC])
    refine tkO (i := 1) (v := ?_) rfl (by kernel_rfl) (fun _ _ _ h => h) (by rfl) ?_ (by assumption) ?_
    rotate_left
    · intro w hSw; (try dsimp only at hSw); go_simp; (try with_reducible rfl)
    (try simp only [Act.put, gA, gB, gC, sA, sB, sC])
    refine tkO (i := 2) (v := ?_) rfl (by kernel_rfl) (fun _ _ _ h => h) (by rfl) ?_ (by assumption) ?_
    rotate_left
    · intro w hSw; (try dsimp only at hSw); go_simp; (try with_reducible rfl)
    (try simp only [Act.put, gA, gB, gC, sA, sB, sC])
    refine wpAnyH_ready (rs := [3]) (by kernel_rfl) (by simp) ?_
    refine AllReadyH.cons (o := _) rfl (fun K hK => ?_) AllReadyH.nil
    go_simp
    refine (lkLink_c b t q s hd k hk31 _).mono ?_; rintro e w5 ⟨rfl, hb⟩; have W5 := hidp (W4.out.drew.keep hb); clear hb W4
    refine hK.out _ _ ?_ (fun hHeld => ?_)
    · (try dsimp only)
      first | exact W4.out.drew.held.six' | exact W5.out.held.six' | exact W6.out.held.six' | exact hHeld
    clear hK K
    (try simp only [Act.put, gA, gB, gC, sA, sB, sC])
    refine wpAnyH_ready (rs := [4]) (by kernel_rfl) (by simp) ?_
    refine AllReadyH.cons (o := _) rfl (fun K hK => ?_) AllReadyH.nil
    go_simp
    refine (lkSetFirst_c hn (k + 1) (by omega) W5.out.at_).mono ?_; rintro e w6 ⟨rfl, h1, h2⟩; have W6 := hidp (W5.out.call h1 h2); clear h1 h2 W5
    refine hK.out _ _ ?_ (fun hHeld => ?_)
    · (try dsimp only)
      first | exact W4.out.drew.held.six' | exact W5.out.held.six' | exact W6.out.held.six' | exact hHeld
    clear hK K
    (try simp only [Act.put, gA, gB, gC, sA, sB, sC])
    refine wpAnyH_done (by kernel_rfl) ?_ _
    obtain ⟨x0, x1, x2, x3, x4, x5⟩ := W6.out.held.six'
    go_wp2
    go_end0
    exact ⟨rfl, by rw [HE.out]; exact W6.out.fin⟩
  · have HE := hidp (HR.out hz)
    have t1 : ((l : Int) == 0) = false := by simp; omega
    have t2 : ((l : Int) != 0) = true := by simp; omega
    clear HP HR
    go_wp2_with fail
    refine wp_region_held_drew (S := (fun w' => w'.cell? ⟨w.heap.size + 1, 0, none⟩ = some (.pointer (some ⟨b, 0, none⟩)) ∧ w'.cell? ⟨w.heap.size + 1, 1, none⟩ = some (.int .i64 t) ∧ w'.cell? ⟨w.heap.size + 1, 2, none⟩ = some (.int .i64 q) ∧ w'.cell? ⟨w.heap.size + 1, 3, none⟩ = some (.int .i64 s) ∧ w'.cell? ⟨w.heap.size + 1, 4, none⟩ = some (.int .i64 hd) ∧ w'.cell? ⟨w.heap.size + 1, 5, none⟩ = some (.int .i64 (k : Int)))) (by kernel_rfl) ?_ (fun hHeld => ?_)
    · (try dsimp only)
      first | exact W4.out.drew.held.six' | exact W5.out.held.six' | exact W6.out.held.six' | exact W7.out.held.six' | exact hHeld
    refine tkO (i := 0) (v := ?_) rfl (by kernel_rfl) (fun _ _ _ h => h) (by rfl) ?_ (by assumption) ?_
    rotate_left
    · intro w hSw; (try dsimp only at hSw); go_simp; (try with_reducible rfl)
    (try simp only [Act.put, gA, gB, gC, sA, sB, sC])
    refine tkO (i := 1) (v := ?_) rfl (by kernel_rfl) (fun _ _ _ h => h) (by rfl) ?_ (by assumption) ?_
    rotate_left
    · intro w hSw; (try dsimp only at hSw); go_simp; (try with_reducible rfl)
    (try simp only [Act.put, gA, gB, gC, sA, sB, sC])
    refine tkO (i := 2) (v := ?_) rfl (by kernel_rfl) (fun _ _ _ h => h) (by rfl) ?_ (by assumption) ?_
    rotate_left
    · intro w hSw; (try dsimp only at hSw); go_simp; (try with_reducible rfl)
    (try simp only [Act.put, gA, gB, gC, sA, sB, sC])
    refine tkO (i := 4) (v := ?_) rfl (by kernel_rfl) (fun _ _ _ h => h) (by rfl) ?_ (by assumption) ?_
    rotate_left
    · intro w hSw; (try dsimp only at hSw); go_simp; (try with_reducible rfl)
    (try simp only [Act.put, gA, gB, gC, sA, sB, sC])
    refine wpAnyH_ready (rs := [3]) (by kernel_rfl) (by simp) ?_
    refine AllReadyH.cons (o := _) rfl (fun K hK => ?_) AllReadyH.nil
    go_simp
    refine (lkTo_c b t q s hd l hl32 _).mono ?_; rintro e w5 ⟨rfl, hb⟩; have W5 := hidp (W4.out.drew.keep hb); clear hb W4
    refine hK.out _ _ ?_ (fun hHeld => ?_)
    · (try dsimp only)
      first | exact W4.out.drew.held.six' | exact W5.out.held.six' | exact W6.out.held.six' | exact W7.out.held.six' | exact hHeld
    clear hK K
    (try simp only [Act.put, gA, gB, gC, sA, sB, sC])
    refine wpAnyH_ready (rs := [5]) (by kernel_rfl) (by simp) ?_
    refine AllReadyH.cons (o := _) rfl (fun K hK => ?_) AllReadyH.nil
    go_simp
    refine (lkLink_c b t q s hd k hk31 _).mono ?_; rintro e w6 ⟨rfl, hb⟩; have W6 := hidp (W5.out.keep hb); clear hb W5
    refine hK.out _ _ ?_ (fun hHeld => ?_)
    · (try dsimp only)
      first | exact W4.out.drew.held.six' | exact W5.out.held.six' | exact W6.out.held.six' | exact W7.out.held.six' | exact hHeld
    clear hK K
    (try simp only [Act.put, gA, gB, gC, sA, sB, sC])
    refine wpAnyH_ready (rs := [6]) (by kernel_rfl) (by simp) ?_
    refine AllReadyH.cons (o := _) rfl (fun K hK => ?_) AllReadyH.nil
    go_simp
    refine (lkSetPrev_c hn (k + 1) (by omega) W6.out.at_).mono ?_; rintro e w7 ⟨rfl, h1, h2⟩; have W7 := hidp (W6.out.call h1 h2); clear h1 h2 W6
    refine hK.out _ _ ?_ (fun hHeld => ?_)
    · (try dsimp only)
      first | exact W4.out.drew.held.six' | exact W5.out.held.six' | exact W6.out.held.six' | exact W7.out.held.six' | exact hHeld
    clear hK K
    (try simp only [Act.put, gA, gB, gC, sA, sB, sC])
    refine wpAnyH_done (by kernel_rfl) ?_ _
    obtain ⟨x0, x1, x2, x3, x4, x5⟩ := W7.out.held.six'
    go_wp2_with fail
    refine wp_region_held_drew (S := (fun w' => w'.cell? ⟨w.heap.size + 1, 0, none⟩ = some (.pointer (some ⟨b, 0, none⟩)) ∧ w'.cell? ⟨w.heap.size + 1, 1, none⟩ = some (.int .i64 t) ∧ w'.cell? ⟨w.heap.size + 1, 2, none⟩ = some (.int .i64 q) ∧ w'.cell? ⟨w.heap.size + 1, 3, none⟩ = some (.int .i64 s) ∧ w'.cell? ⟨w.heap.size + 1, 4, none⟩ = some (.int .i64 hd) ∧ w'.cell? ⟨w.heap.size + 1, 5, none⟩ = some (.int .i64 (k : Int)))) (by kernel_rfl) ?_ (fun hHeld => ?_)
    · (try dsimp only)
      first | exact W7.out.drew.held.six' | exact W8.out.held.six' | exact W9.out.held.six' | exact hHeld
    refine tkO (i := 0) (v := ?_) rfl (by kernel_rfl) (fun _ _ _ h => h) (by rfl) ?_ (by assumption) ?_
    rotate_left
    · intro w hSw; (try dsimp only at hSw); go_simp; (try with_reducible rfl)
    (try simp only [Act.put, gA, gB, gC, sA, sB, sC])
    refine tkO (i := 1) (v := ?_) rfl (by kernel_rfl) (fun _ _ _ h => h) (by rfl) ?_ (by assumption) ?_
    rotate_left
    · intro w hSw; (try dsimp only at hSw); go_simp; (try with_reducible rfl)
    (try simp only [Act.put, gA, gB, gC, sA, sB, sC])
    refine tkO (i := 2) (v := ?_) rfl (by kernel_rfl) (fun _ _ _ h => h) (by rfl) ?_ (by assumption) ?_
    rotate_left
    · intro w hSw; (try dsimp only at hSw); go_simp; (try with_reducible rfl)
    (try simp only [Act.put, gA, gB, gC, sA, sB, sC])
    refine wpAnyH_ready (rs := [3]) (by kernel_rfl) (by simp) ?_
    refine AllReadyH.cons (o := _) rfl (fun K hK => ?_) AllReadyH.nil
    go_simp
    refine (lkLink_c b t q s hd k hk31 _).mono ?_; rintro e w8 ⟨rfl, hb⟩; have W8 := hidp (W7.out.drew.keep hb); clear hb W7
    refine hK.out _ _ ?_ (fun hHeld => ?_)
    · (try dsimp only)
      first | exact W7.out.drew.held.six' | exact W8.out.held.six' | exact W9.out.held.six' | exact hHeld
    clear hK K
    (try simp only [Act.put, gA, gB, gC, sA, sB, sC])
    refine wpAnyH_ready (rs := [4]) (by kernel_rfl) (by simp) ?_
    refine AllReadyH.cons (o := _) rfl (fun K hK => ?_) AllReadyH.nil
    go_simp
    refine (lkSetFirst_c hn (k + 1) (by omega) W8.out.at_).mono ?_; rintro e w9 ⟨rfl, h1, h2⟩; have W9 := hidp (W8.out.call h1 h2); clear h1 h2 W8
    refine hK.out _ _ ?_ (fun hHeld => ?_)
    · (try dsimp only)
      first | exact W7.out.drew.held.six' | exact W8.out.held.six' | exact W9.out.held.six' | exact hHeld
    clear hK K
    (try simp only [Act.put, gA, gB, gC, sA, sB, sC])
    refine wpAnyH_done (by kernel_rfl) ?_ _
    obtain ⟨x0, x1, x2, x3, x4, x5⟩ := W9.out.held.six'
    go_wp2
    go_end0
    exact ⟨rfl, by rw [HE.out]; exact W9.out.fin⟩
theorem lkPush_c (hn : n < 2 ^ 40) (hq : q ≤ 2 ^ 31) (p : Int) (h : (vOb base b n wh K).At w0 A G st w) :
    Calls Try.prog 40 #[.pointer (some ⟨b, 0, none⟩), .agg #[.int .i64 t, .int .i64 q, .int .i64 s], .int .i64 hd, .int .i64 p] w fun e w' => e = .returned (.tuple #[]) ∧ (vOb base b n wh K).At w0 A G (pushI n K t q s hd p st) w' ∧ Stay G w w' := by
  cases hp : pgB q p with
  | false => rw [(pgB_none hp).1]; exact lkPush_no hn p hp h
  | true =>
    have h1 := (pgB_iff _ _).1 hp
    obtain ⟨k, rfl⟩ := Int.eq_ofNat_of_zero_le h1.1
    rw [(pgB_nat hp).1]
    exact lkPush_yes hn k hp (by omega) h

theorem lkPull_no (hn : n < 2 ^ 40) (p : Int) (hp : pgB q p = false) (h : (vOb base b n wh K).At w0 A G st w) :
    Calls Try.prog 31 #[.pointer (some ⟨b, 0, none⟩), .agg #[.int .i64 t, .int .i64 q, .int .i64 s], .int .i64 hd, .int .i64 p] w fun e w' => e = .returned (.tuple #[]) ∧ (vOb base b n wh K).At w0 A G (st) w' ∧ Stay G w w' := by
  have W0 := hidp (WK.two h (.cells #[.int .i64 t, .int .i64 q, .int .i64 s] 23) 95 #[.pointer (some ⟨b, 0, none⟩), .int .i64 t, .int .i64 q, .int .i64 s, .int .i64 hd, .int .i64 p])
  obtain ⟨x0, x1, x2, x3, x4, x5⟩ := W0.out.held.six'
  have HK := hidp hp
  clear h hp
  go_enter Try.func31, Try.ntmps31
  go_wp2_with fail
  refine (lkIs_c b t q s hd p _).mono ?_; rintro e w1 ⟨rfl, hb⟩; rw [HK.out]; have W1 := hidp (W0.out.keep hb); clear hb W0
  go_wp2
  (try simp only [Exit.inBlock, Exit.then])
  refine bodyPost_ret (results_none rfl _ _ _) rfl ?_
  exact ⟨rfl, W1.out.fin⟩

set_option maxHeartbeats 3200000 in
theorem lkPull_yes (hn : n < 2 ^ 40) (k : Nat) (hk : pgB q (k : Int) = true) (hk31 : k < 2 ^ 31) (h : (vOb base b n wh K).At w0 A G st w) :
    Calls Try.prog 31 #[.pointer (some ⟨b, 0, none⟩), .agg #[.int .i64 t, .int .i64 q, .int .i64 s], .int .i64 hd, .int .i64 (k : Int)] w fun e w' => e = .returned (.tuple #[]) ∧ (vOb base b n wh K).At w0 A G (pullS n K t q s hd k st) w' ∧ Stay G w w' := by
  have W0 := hidp (WK.two h (.cells #[.int .i64 t, .int .i64 q, .int .i64 s] 23) 95 #[.pointer (some ⟨b, 0, none⟩), .int .i64 t, .int .i64 q, .int .i64 s, .int .i64 hd, .int .i64 (k : Int)])
  obtain ⟨x0, x1, x2, x3, x4, x5⟩ := W0.out.held.six'
  have HK := hidp hk
  obtain ⟨x, hx⟩ : ∃ x, pullN n K t q s k st = x := ⟨_, rfl⟩
  obtain ⟨y, hy⟩ : ∃ y, pullB n K t q s k st = y := ⟨_, rfl⟩
  have hx32 : x < 2 ^ 32 := by rw [← hx]; exact vAt_lt h _
  have HX : Hid (getV n K st (pageI t q s (k : Int) 2) = x) := hidp hx
  have HY : Hid (getV n K (getS n K st (pageI t q s (k : Int) 2)) (pageI t q s (k : Int) 3) = y) := hidp hy
  have H0 : Hid (pull0 n K t q s k st = getS n K (getS n K st (pageI t q s (k : Int) 2)) (pageI t q s (k : Int) 3)) := hidp rfl
  have HA : Hid (y = 0 → pull1 n K t q s hd k st = putS n (pull0 n K t q s k st) hd x) := hidp (fun e => by unfold pull1; rw [if_pos (hy.trans e), hx])
  have HB : Hid (y ≠ 0 → pull1 n K t q s hd k st = putS n (pull0 n K t q s k st) (pageI t q s ((y : Int) - 1) 2) x) := hidp (fun e => by unfold pull1; rw [if_neg (by rw [hy]; exact e), hx, hy])
  have HC : Hid (x = 0 → pull2 n K t q s hd k st = pull1 n K t q s hd k st) := hidp (fun e => by unfold pull2; rw [if_pos (hx.trans e)])
  have HD : Hid (x ≠ 0 → pull2 n K t q s hd k st = putS n (pull1 n K t q s hd k st) (pageI t q s ((x : Int) - 1) 3) y) := hidp (fun e => by unfold pull2; rw [if_neg (by rw [hx]; exact e), hx, hy])
  have HE : Hid (pullS n K t q s hd k st = putS n (putS n (pull2 n K t q s hd k st) (pageI t q s (k : Int) 2) 0) (pageI t q s (k : Int) 3) 0) := hidp rfl
  clear hx hy
  clear h hk
  go_enter Try.func31, Try.ntmps31
  go_wp2_with fail
  refine (lkIs_c b t q s hd k _).mono ?_; rintro e w1 ⟨rfl, hb⟩; have W1 := hidp (W0.out.keep hb); clear hb W0; rw [HK.out]
  obtain ⟨x0, x1, x2, x3, x4, x5⟩ := W1.out.held.six'
  go_wp2_with fail
  refine wp_region_held_drew (S := (fun w' => w'.cell? ⟨w.heap.size + 1, 0, none⟩ = some (.pointer (some ⟨b, 0, none⟩)) ∧ w'.cell? ⟨w.heap.size + 1, 1, none⟩ = some (.int .i64 t) ∧ w'.cell? ⟨w.heap.size + 1, 2, none⟩ = some (.int .i64 q) ∧ w'.cell? ⟨w.heap.size + 1, 3, none⟩ = some (.int .i64 s) ∧ w'.cell? ⟨w.heap.size + 1, 4, none⟩ = some (.int .i64 hd) ∧ w'.cell? ⟨w.heap.size + 1, 5, none⟩ = some (.int .i64 (k : Int)))) (by kernel_rfl) ?_ (fun hHeld => ?_)
  · (try dsimp only)
    first | exact W1.out.drew.held.six' | exact W2.out.held.six' | exact W3.out.held.six' | exact hHeld
  refine tkO (i := 0) (v := ?_) rfl (by kernel_rfl) (fun _ _ _ h => h) (by rfl) ?_ (by assumption) ?_
  rotate_left
  · intro w hSw; (try dsimp only at hSw); go_simp; (try with_reducible rfl)
  (try simp only [Act.put, gA, gB, gC, sA, sB, sC])
  refine tkO (i := 2) (v := ?_) rfl (by kernel_rfl) (fun _ _ _ h => h) (by rfl) ?_ (by assumption) ?_
  rotate_left
  · intro w hSw; (try dsimp only at hSw); go_simp; (try with_reducible rfl)
  (try simp only [Act.put, gA, gB, gC, sA, sB, sC])
  refine wpAnyH_ready (rs := [1]) (by kernel_rfl) (by simp) ?_
  refine AllReadyH.cons (o := _) rfl (fun K hK => ?_) AllReadyH.nil
  go_simp
  refine (lkNext_c hn W1.out.drew.at_).mono ?_; rintro e w2 ⟨rfl, h1, h2⟩; have W2 := hidp (W1.out.drew.call h1 h2); have HZ := W2; clear h1 h2 W1; rw [HX.out]
  refine hK.out _ _ ?_ (fun hHeld => ?_)
  · (try dsimp only)
    first | exact W1.out.drew.held.six' | exact W2.out.held.six' | exact W3.out.held.six' | exact hHeld
  clear hK K
  (try simp only [Act.put, gA, gB, gC, sA, sB, sC])
  refine wpAnyH_ready (rs := [3]) (by kernel_rfl) (by simp) ?_
  refine AllReadyH.cons (o := _) rfl (fun K hK => ?_) AllReadyH.nil
  go_simp
  refine (lkPrev_c hn W2.out.at_).mono ?_; rintro e w3 ⟨rfl, h1, h2⟩; have W3 := hidp (W2.out.call h1 h2); clear h1 h2 W2; have hy32 : y < 2 ^ 32 := by { rw [← HY.out]; exact vAt_lt HZ.out.at_ _ }; clear HZ; rw [HY.out]
  refine hK.out _ _ ?_ (fun hHeld => ?_)
  · (try dsimp only)
    first | exact W1.out.drew.held.six' | exact W2.out.held.six' | exact W3.out.held.six' | exact hHeld
  clear hK K
  (try simp only [Act.put, gA, gB, gC, sA, sB, sC])
  refine tkO (i := 4) (v := ?_) rfl (by kernel_rfl) (fun _ _ _ h => h) (by rfl) ?_ (by assumption) ?_
  rotate_left
  · intro w hSw; (try dsimp only at hSw); go_simp; (try with_reducible rfl)
  (try simp only [Act.put, gA, gB, gC, sA, sB, sC])
  refine tkO (i := 5) (v := ?_) rfl (by kernel_rfl) (fun _ _ _ h => h) (by rfl) ?_ (by assumption) ?_
  rotate_left
  · intro w hSw; (try dsimp only at hSw); go_simp; (try with_reducible rfl)
  (try simp only [Act.put, gA, gB, gC, sA, sB, sC])
  refine wpAnyH_done (by kernel_rfl) ?_ _
  obtain ⟨x0, x1, x2, x3, x4, x5⟩ := W3.out.held.six'
  rw [← H0.out] at W3
  clear HX HY H0 HK
  by_cases hyz : y = 0
  · have HM := hidp (HA.out hyz)
    subst hyz
    go_wp2_with fail
    refine (lkSetFirst_c hn x hx32 W3.out.at_).mono ?_; rintro e w4 ⟨rfl, h1, h2⟩; have W4 := hidp (W3.out.call h1 h2); clear h1 h2 W3
    obtain ⟨x0, x1, x2, x3, x4, x5⟩ := W4.out.held.six'
    rw [← HM.out] at W4
    clear HA HB HM
    by_cases hxz : x = 0
    · have HN := hidp (HC.out hxz)
      subst hxz
      clear HC HD
      go_wp2_with fail
      refine (lkSetNext_c hn 0 (by omega) W4.out.at_).mono ?_; rintro e w5 ⟨rfl, h1, h2⟩; have W5 := hidp (W4.out.call h1 h2); clear h1 h2 W4
      obtain ⟨x0, x1, x2, x3, x4, x5⟩ := W5.out.held.six'
      go_wp2_with fail
      refine (lkSetPrev_c hn 0 (by omega) W5.out.at_).mono ?_; rintro e w6 ⟨rfl, h1, h2⟩; have W6 := hidp (W5.out.call h1 h2); clear h1 h2 W5
      obtain ⟨x0, x1, x2, x3, x4, x5⟩ := W6.out.held.six'
      go_wp2
      go_end0
      exact ⟨rfl, by rw [HE.out, HN.out]; exact W6.out.fin⟩
    · have HN := hidp (HD.out hxz)
      have t3 : ((x : Int) == 0) = false := by simp; omega
      have t4 : ((x : Int) != 0) = true := by simp; omega
      clear HC HD
      go_wp2_with fail
      refine (lkTo_c b t q s hd x hx32 _).mono ?_; rintro e w5 ⟨rfl, hb⟩; have W5 := hidp (W4.out.keep hb); clear hb W4
      obtain ⟨x0, x1, x2, x3, x4, x5⟩ := W5.out.held.six'
      go_wp2_with fail
      refine (lkSetPrev_c hn 0 (by omega) W5.out.at_).mono ?_; rintro e w6 ⟨rfl, h1, h2⟩; have W6 := hidp (W5.out.call h1 h2); clear h1 h2 W5
      obtain ⟨x0, x1, x2, x3, x4, x5⟩ := W6.out.held.six'
      go_wp2_with fail
      refine (lkSetNext_c hn 0 (by omega) W6.out.at_).mono ?_; rintro e w7 ⟨rfl, h1, h2⟩; have W7 := hidp (W6.out.call h1 h2); clear h1 h2 W6
      obtain ⟨x0, x1, x2, x3, x4, x5⟩ := W7.out.held.six'
      go_wp2_with fail
      refine (lkSetPrev_c hn 0 (by omega) W7.out.at_).mono ?_; rintro e w8 ⟨rfl, h1, h2⟩; have W8 := hidp (W7.out.call h1 h2); clear h1 h2 W7
      obtain ⟨x0, x1, x2, x3, x4, x5⟩ := W8.out.held.six'
      go_wp2
      go_end0
      exact ⟨rfl, by rw [HE.out, HN.out]; exact W8.out.fin⟩
  · have HM := hidp (HB.out hyz)
    have t1 : ((y : Int) == 0) = false := by simp; omega
    have t2 : ((y : Int) != 0) = true := by simp; omega
    go_wp2_with fail
    refine (lkTo_c b t q s hd y hy32 _).mono ?_; rintro e w4 ⟨rfl, hb⟩; have W4 := hidp (W3.out.keep hb); clear hb W3
    obtain ⟨x0, x1, x2, x3, x4, x5⟩ := W4.out.held.six'
    go_wp2_with fail
    refine (lkSetNext_c hn x hx32 W4.out.at_).mono ?_; rintro e w5 ⟨rfl, h1, h2⟩; have W5 := hidp (W4.out.call h1 h2); clear h1 h2 W4
    obtain ⟨x0, x1, x2, x3, x4, x5⟩ := W5.out.held.six'
    rw [← HM.out] at W5
    clear HA HB HM
    by_cases hxz : x = 0
    · have HN := hidp (HC.out hxz)
      subst hxz
      clear HC HD
      go_wp2_with fail
      refine (lkSetNext_c hn 0 (by omega) W5.out.at_).mono ?_; rintro e w6 ⟨rfl, h1, h2⟩; have W6 := hidp (W5.out.call h1 h2); clear h1 h2 W5
      obtain ⟨x0, x1, x2, x3, x4, x5⟩ := W6.out.held.six'
      go_wp2_with fail
      refine (lkSetPrev_c hn 0 (by omega) W6.out.at_).mono ?_; rintro e w7 ⟨rfl, h1, h2⟩; have W7 := hidp (W6.out.call h1 h2); clear h1 h2 W6
      obtain ⟨x0, x1, x2, x3, x4, x5⟩ := W7.out.held.six'
      go_wp2
      go_end0
      exact ⟨rfl, by rw [HE.out, HN.out]; exact W7.out.fin⟩
    · have HN := hidp (HD.out hxz)
      have t3 : ((x : Int) == 0) = false := by simp; omega
      have t4 : ((x : Int) != 0) = true := by simp; omega
      clear HC HD
      go_wp2_with fail
      refine (lkTo_c b t q s hd x hx32 _).mono ?_; rintro e w6 ⟨rfl, hb⟩; have W6 := hidp (W5.out.keep hb); clear hb W5
      obtain ⟨x0, x1, x2, x3, x4, x5⟩ := W6.out.held.six'
      go_wp2_with fail
      refine (lkSetPrev_c hn y hy32 W6.out.at_).mono ?_; rintro e w7 ⟨rfl, h1, h2⟩; have W7 := hidp (W6.out.call h1 h2); clear h1 h2 W6
      obtain ⟨x0, x1, x2, x3, x4, x5⟩ := W7.out.held.six'
      go_wp2_with fail
      refine (lkSetNext_c hn 0 (by omega) W7.out.at_).mono ?_; rintro e w8 ⟨rfl, h1, h2⟩; have W8 := hidp (W7.out.call h1 h2); clear h1 h2 W7
      obtain ⟨x0, x1, x2, x3, x4, x5⟩ := W8.out.held.six'
      go_wp2_with fail
      refine (lkSetPrev_c hn 0 (by omega) W8.out.at_).mono ?_; rintro e w9 ⟨rfl, h1, h2⟩; have W9 := hidp (W8.out.call h1 h2); clear h1 h2 W8
      obtain ⟨x0, x1, x2, x3, x4, x5⟩ := W9.out.held.six'
      go_wp2
      go_end0
      exact ⟨rfl, by rw [HE.out, HN.out]; exact W9.out.fin⟩
theorem lkPull_c (hn : n < 2 ^ 40) (hq : q ≤ 2 ^ 31) (p : Int) (h : (vOb base b n wh K).At w0 A G st w) :
    Calls Try.prog 31 #[.pointer (some ⟨b, 0, none⟩), .agg #[.int .i64 t, .int .i64 q, .int .i64 s], .int .i64 hd, .int .i64 p] w fun e w' => e = .returned (.tuple #[]) ∧ (vOb base b n wh K).At w0 A G (pullI n K t q s hd p st) w' ∧ Stay G w w' := by
  cases hp : pgB q p with
  | false => rw [(pgB_none hp).2]; exact lkPull_no hn p hp h
  | true =>
    have h1 := (pgB_iff _ _).1 hp
    obtain ⟨k, rfl⟩ := Int.eq_ofNat_of_zero_le h1.1
    rw [(pgB_nat hp).2]
    exact lkPull_yes hn k hp (by omega) h

end
end Go.Proofs.Ytpndfhdedmdoeaa
