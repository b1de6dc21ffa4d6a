/-
  Bins, as functions: which bin, what Find, Drop and Add read and write. No program is named here but for the Views'.
-/
import Derived.Test.YtpndfhdedmdoeaaLinkMath
import Derived.Test.YtpndfhdedmdoeaaInfoGet
namespace Go.Proofs.Ytpndfhdedmdoeaa
open Go.ChangeShapes Go.WideShapes Go.ChangeAt Go.RowKit Go.Maps
set_option linter.unusedVariables false
set_option linter.unusedSimpArgs false

/-- the bin of spans of n pages -/
def ofI (n : Int) : Int := if n < 1 ∨ 1024 < n then -1 else HM.logI n
theorem ofI_nat {n : Nat} (h1 : 1 ≤ n) (h2 : n ≤ 1024) : ∃ k : Nat, ofI (n : Int) = k ∧ k ≤ 10 ∧ 2 ^ k ≤ n ∧ n < 2 ^ (k + 1) := by
  have h : ∃ k : Nat, k ≤ 10 ∧ 2 ^ k ≤ n ∧ n < 2 ^ (k + 1) := by
    rcases Nat.lt_or_ge n 1024 with h3 | h3
    · refine ⟨Nat.log2 n, ?_, Nat.log2_self_le (by omega), Nat.lt_log2_self⟩
      have := Nat.log2_lt (n := n) (k := 10) (by omega)
      have := this.2 h3
      omega
    · exact ⟨10, by omega, by omega, by omega⟩
  obtain ⟨k, hk, ha, hb⟩ := h
  refine ⟨k, ?_, hk, ha, hb⟩
  unfold ofI
  rw [if_neg (by omega)]
  exact HM.logI_at (n : Int) k (by
    have e : ((n : Int) / 2 ^ k) = ((n / 2 ^ k : Nat) : Int) := by push_cast; rfl
    rw [e]
    have := Nat.div_le_div_right (c := 2 ^ k) ha
    rw [Nat.div_self (Nat.two_pow_pos k)] at this
    omega) (by
    have e : ((n : Int) / 2 ^ (k + 1)) = ((n / 2 ^ (k + 1) : Nat) : Int) := by push_cast; rfl
    rw [e, Nat.div_eq_of_lt hb]
    omega)

/-- is a value that of a free span of at least nn pages? -/
def fitB (nn : Int) (v : Nat) : Bool := decide ((infoG v).1 = 1) && decide (nn ≤ (infoG v).2.1)
section
variable (n : Nat) (K : Nat → Option Nat) (t q s nn : Int)
/-- in the list from the link l on, at most m pages: the first one that will do -/
def lookF : Nat → Nat → Vst → Option Nat × Vst
  | 0, _, st => (none, st)
  | m + 1, l, st => if 1 ≤ l ∧ (l : Int) ≤ q then
      (if fitB nn (getV n K st (pageI t q s ((l : Int) - 1) 0)) = true then (some (l - 1), getS n K st (pageI t q s ((l : Int) - 1) 0))
       else lookF m (getV n K (getS n K st (pageI t q s ((l : Int) - 1) 0)) (pageI t q s ((l : Int) - 1) 2)) (getS n K (getS n K st (pageI t q s ((l : Int) - 1) 0)) (pageI t q s ((l : Int) - 1) 2)))
    else (none, st)
/-- the first page of the first of the j bins from k on that is not empty -/
def nextF : Nat → Nat → Vst → Option Nat × Vst
  | 0, _, st => (none, st)
  | j + 1, k, st => if 1 ≤ getV n K st ((2 + k : Nat) : Int) ∧ ((getV n K st ((2 + k : Nat) : Int) : Nat) : Int) ≤ q then (some (getV n K st ((2 + k : Nat) : Int) - 1), getS n K st ((2 + k : Nat) : Int))
    else nextF j (k + 1) (getS n K st ((2 + k : Nat) : Int))
/-- for nn pages, of which the bin is k -/
def findF (k : Nat) (st : Vst) : Option Nat × Vst :=
  let r := lookF n K t q s nn q.toNat (getV n K st ((2 + k : Nat) : Int)) (getS n K st ((2 + k : Nat) : Int))
  match r.1 with
  | some p => (some p, r.2)
  | none => nextF n K q (11 - (k + 1)) (k + 1) r.2
theorem lookF_end {m l : Nat} {st : Vst} (h : ¬ (1 ≤ l ∧ (l : Int) ≤ q)) : lookF n K t q s nn m l st = (none, st) := by
  cases m with
  | zero => rfl
  | succ m => rw [lookF, if_neg h]
theorem lookF_found {m l : Nat} {st : Vst} (h : 1 ≤ l ∧ (l : Int) ≤ q) (hv : fitB nn (getV n K st (pageI t q s ((l : Int) - 1) 0)) = true) : lookF n K t q s nn (m + 1) l st = (some (l - 1), getS n K st (pageI t q s ((l : Int) - 1) 0)) := by
  rw [lookF, if_pos h, if_pos hv]
theorem lookF_step {m l : Nat} {st : Vst} (h : 1 ≤ l ∧ (l : Int) ≤ q) (hv : fitB nn (getV n K st (pageI t q s ((l : Int) - 1) 0)) = false) :
    lookF n K t q s nn (m + 1) l st = lookF n K t q s nn m (getV n K (getS n K st (pageI t q s ((l : Int) - 1) 0)) (pageI t q s ((l : Int) - 1) 2)) (getS n K (getS n K st (pageI t q s ((l : Int) - 1) 0)) (pageI t q s ((l : Int) - 1) 2)) := by
  rw [lookF, if_pos h, if_neg (by rw [hv]; simp)]
theorem nextF_found {j k : Nat} {st : Vst} (h : 1 ≤ getV n K st ((2 + k : Nat) : Int) ∧ ((getV n K st ((2 + k : Nat) : Int) : Nat) : Int) ≤ q) : nextF n K q (j + 1) k st = (some (getV n K st ((2 + k : Nat) : Int) - 1), getS n K st ((2 + k : Nat) : Int)) := by
  rw [nextF, if_pos h]
theorem nextF_step {j k : Nat} {st : Vst} (h : ¬ (1 ≤ getV n K st ((2 + k : Nat) : Int) ∧ ((getV n K st ((2 + k : Nat) : Int) : Nat) : Int) ≤ q)) : nextF n K q (j + 1) k st = nextF n K q j (k + 1) (getS n K st ((2 + k : Nat) : Int)) := by
  rw [nextF, if_neg h]
end

/-- the cell of the bin of spans of nn pages -/
def binH (nn : Int) : Int := nthI 2 11 1 (ofI nn)
theorem binH_nat {nn k : Nat} (h : ofI (nn : Int) = (k : Int)) (hk : k ≤ 10) : binH (nn : Int) = ((2 + k : Nat) : Int) := by
  unfold binH
  rw [h, nth_on (by omega) (by omega) (by omega)]
  push_cast
  omega
section
variable (n : Nat) (K : Nat → Option Nat) (t q s : Int)
def infoOf (p : Int) (st : Vst) : Int × Int × Int × Bool := infoG (getV n K st (pageI t q s p 0))
def dropV (p : Int) (st : Vst) : Int := if pgB q p then (if (infoOf n K t q s p st).1 = 1 then (infoOf n K t q s p st).2.1 else 0) else 0
def dropS (p : Int) (st : Vst) : Vst := if pgB q p then (if (infoOf n K t q s p st).1 = 1 then pullI n K t q s (binH (infoOf n K t q s p st).2.1) p (getS n K st (pageI t q s p 0)) else getS n K st (pageI t q s p 0)) else st
def addS (p nn : Int) (st : Vst) : Vst := if pgB q p = true ∧ 1 ≤ nn ∧ nn ≤ q - p then pushI n K t q s (binH nn) p (putS n (putS n st (pageI t q s p 0) (infoV 1 nn 0)) (pageI t q s (p + nn - 1) 1) (p.toNat + 1)) else st
end
/-- what Find tells: the page, or 0 -/
def foundI (o : Option Nat) : Int := match o with
  | some p => (p : Int)
  | none => 0
def findI (n : Nat) (K : Nat → Option Nat) (t q s nn : Int) (st : Vst) : Option Nat × Vst := if 1 ≤ nn ∧ nn ≤ q then findF n K t q s nn (ofI nn).toNat st else (none, st)
theorem findI_no {n : Nat} {K : Nat → Option Nat} {t q s nn : Int} {st : Vst} (h : ¬ (1 ≤ nn ∧ nn ≤ q)) : findI n K t q s nn st = (none, st) := by unfold findI; rw [if_neg h]
theorem findI_yes {n : Nat} {K : Nat → Option Nat} {t q s nn : Int} {st : Vst} {own : Nat} (ho : ofI nn = (own : Int)) (h1 : 1 ≤ nn) (h2 : nn ≤ q) : findI n K t q s nn st = findF n K t q s nn own st := by
  unfold findI
  rw [if_pos ⟨h1, h2⟩, ho, Int.toNat_natCast]
end Go.Proofs.Ytpndfhdedmdoeaa
