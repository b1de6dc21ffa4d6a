/-
  Plain facts on a register of 32 bits into which bits go one by one (a cyclic sum): it is a sum over two elements; two lists of bits that are unlike within 32 in a row leave unlike registers. No program is named here.
-/
import Derived.Below
namespace Go.Proofs.Ytdhpjlbcldcfjaa.SM

/-- a bit that goes in -/
def stp (r : Nat) (b : Bool) : Nat := if (r.testBit 0 != b) then r / 2 ^^^ 2197175160 else r / 2
theorem stp_lt {r : Nat} (h : r < 2 ^ 32) (b : Bool) : stp r b < 2 ^ 32 := by
  unfold stp
  split
  · exact Nat.xor_lt_two_pow (by omega) (by omega)
  · omega
theorem half_xor (r s : Nat) : (r ^^^ s) / 2 = r / 2 ^^^ s / 2 := by
  refine Nat.eq_of_testBit_eq fun i => ?_
  rw [Nat.testBit_div_two, Nat.testBit_xor, Nat.testBit_xor, Nat.testBit_div_two, Nat.testBit_div_two]
theorem stp_xor (r s : Nat) (b c : Bool) : stp r b ^^^ stp s c = stp (r ^^^ s) (b != c) := by
  unfold stp
  rw [half_xor, Nat.testBit_xor]
  generalize r / 2 = x
  generalize s / 2 = y
  refine Nat.eq_of_testBit_eq fun i => ?_
  generalize hz : (2197175160 : Nat) = z
  cases r.testBit 0 <;> cases s.testBit 0 <;> cases b <;> cases c <;> simp <;> cases x.testBit i <;> cases y.testBit i <;> cases z.testBit i <;> rfl
theorem stp_self (x : Nat) : stp x (x.testBit 0) = x / 2 := by unfold stp; simp
theorem stp_zero : stp 0 false = 0 := by unfold stp; simp
theorem stp_ne {x : Nat} (h : x < 2 ^ 32) (h0 : x ≠ 0) : stp x false ≠ 0 := by
  unfold stp
  rw [Nat.testBit_zero]
  by_cases h1 : x % 2 = 1
  · simp [h1]
    intro h2
    have h3 : x / 2 = 2197175160 := by
      have := congrArg (· ^^^ 2197175160) h2
      simpa [Nat.xor_assoc] using this
    omega
  · simp [h1]
    omega

/-- the register behind the first p bits -/
def rn (f : Nat → Bool) (r : Nat) : Nat → Nat
  | 0 => r
  | p + 1 => stp (rn f r p) (f p)
theorem rn_lt (f : Nat → Bool) {r : Nat} (h : r < 2 ^ 32) (p : Nat) : rn f r p < 2 ^ 32 := by
  induction p with
  | zero => exact h
  | succ p ih => exact stp_lt ih _
theorem rn_add (f : Nat → Bool) (r a b : Nat) : rn f r (a + b) = rn (fun i => f (a + i)) (rn f r a) b := by
  induction b with
  | zero => rfl
  | succ b ih => show stp (rn f r (a + b)) (f (a + b)) = _; rw [ih]; rfl
theorem rn_congr {f g : Nat → Bool} {p : Nat} (r : Nat) (h : ∀ i, i < p → f i = g i) : rn f r p = rn g r p := by
  induction p with
  | zero => rfl
  | succ p ih =>
    show stp (rn f r p) (f p) = stp (rn g r p) (g p)
    rw [ih (fun i hi => h i (by omega)), h p (by omega)]
theorem rn_xor (f g : Nat → Bool) (r s p : Nat) : rn f r p ^^^ rn g s p = rn (fun i => f i != g i) (r ^^^ s) p := by
  induction p with
  | zero => rfl
  | succ p ih => show stp _ _ ^^^ stp _ _ = stp _ _; rw [stp_xor, ih]

/-- a register of which nothing is 1, behind bits of which those from 'at' on are t's -/
theorem rn_burst (f : Nat → Bool) (a t : Nat) (ht : t < 2 ^ 32) (h0 : t ≠ 0) (n : Nat) (hf : ∀ i, i < n → f i = (decide (a ≤ i) && t.testBit (i - a))) :
    (n ≤ a → rn f 0 n = 0) ∧ (∀ i, n = a + i → rn f 0 n ^^^ t / 2 ^ i ≠ 0) := by
  induction n with
  | zero =>
    refine ⟨fun _ => rfl, fun i hi => ?_⟩
    obtain rfl : i = 0 := by omega
    show 0 ^^^ t / 2 ^ 0 ≠ 0
    simpa using h0
  | succ n ih =>
    obtain ⟨ih1, ih2⟩ := ih (fun i hi => hf i (by omega))
    have hfn := hf n (by omega)
    have e : rn f 0 (n + 1) = stp (rn f 0 n) (f n) := rfl
    by_cases hn : n < a
    · have hz : rn f 0 (n + 1) = 0 := by
        rw [e, hfn, ih1 (by omega)]
        simp [show ¬ a ≤ n from by omega, stp_zero]
      refine ⟨fun _ => hz, fun i hi => ?_⟩
      obtain rfl : i = 0 := by omega
      rw [hz]
      simpa using h0
    · refine ⟨fun h => absurd h (by omega), fun i hi => ?_⟩
      obtain ⟨j, rfl⟩ : ∃ j, i = j + 1 := ⟨i - 1, by omega⟩
      have h1 := ih2 j (by omega)
      have hb : f n = (t / 2 ^ j).testBit 0 := by
        rw [hfn, Nat.testBit_div_two_pow]
        simp [show a ≤ n from by omega, show n - a = j from by omega]
      have h2 : t / 2 ^ (j + 1) = stp (t / 2 ^ j) ((t / 2 ^ j).testBit 0) := by
        rw [stp_self, Nat.pow_succ, Nat.div_div_eq_div_mul]
      rw [e, hb, h2, stp_xor]
      have hlt : rn f 0 n ^^^ t / 2 ^ j < 2 ^ 32 := Nat.xor_lt_two_pow (rn_lt f (by omega) n) (Nat.lt_of_le_of_lt (Nat.div_le_self _ _) ht)
      simpa using stp_ne hlt h1

/-- the register behind a word's first k bits -/
def nx (r x k : Nat) : Nat := rn (fun i => x.testBit i) r k
def nextN (r x : Nat) : Nat := nx r x 64
theorem nx_succ (r x k : Nat) : nx r x (k + 1) = stp (nx r x k) (x.testBit k) := rfl
theorem nx_lt {r : Nat} (h : r < 2 ^ 32) (x k : Nat) : nx r x k < 2 ^ 32 := rn_lt _ h k
/-- the register behind words -/
def regs (r : Nat) (ws : List Nat) : Nat := ws.foldl nextN r
theorem regs_lt {r : Nat} (h : r < 2 ^ 32) (ws : List Nat) : regs r ws < 2 ^ 32 := by
  unfold regs
  induction ws generalizing r with
  | nil => exact h
  | cons x ws ih => exact ih (nx_lt h x 64)
theorem regs_snoc (r : Nat) (ws : List Nat) (x : Nat) : regs r (ws ++ [x]) = nextN (regs r ws) x := by unfold regs; simp
theorem regs_take (r : Nat) (ws : List Nat) (k : Nat) (h : k < ws.length) : regs r (ws.take (k + 1)) = nextN (regs r (ws.take k)) (ws.getD k 0) := by
  rw [List.take_succ_eq_append_getElem h, regs_snoc]
  simp [List.getD, List.getElem?_eq_getElem h]
def ofN (ws : List Nat) : Nat := 4294967295 - regs 4294967295 ws

/-- bit p of words -/
def bitAt (ws : List Nat) (p : Nat) : Bool := (ws.getD (p / 64) 0).testBit (p % 64)
theorem regs_rn (r : Nat) (ws : List Nat) : regs r ws = rn (bitAt ws) r (64 * ws.length) := by
  induction ws generalizing r with
  | nil => rfl
  | cons x ws ih =>
    show regs (nextN r x) ws = _
    rw [ih, show 64 * (x :: ws).length = 64 + 64 * ws.length from by simp; omega, rn_add]
    have e1 : rn (bitAt (x :: ws)) r 64 = nextN r x := rn_congr r fun i hi => by
      unfold bitAt
      rw [show i / 64 = 0 from by omega, show i % 64 = i from by omega]
      rfl
    rw [e1]
    refine rn_congr _ fun i _ => ?_
    unfold bitAt
    rw [show (64 + i) / 64 = i / 64 + 1 from by omega, show (64 + i) % 64 = i % 64 from by omega]
    rfl

theorem ofN_ne (ws vs : List Nat) (a t : Nat) (hl : vs.length = ws.length) (ht : t < 2 ^ 32) (h0 : t ≠ 0) (ha : a + 32 ≤ 64 * ws.length)
    (h : ∀ p, p < 64 * ws.length → bitAt vs p = (bitAt ws p != (decide (a ≤ p) && t.testBit (p - a)))) : ofN vs ≠ ofN ws := by
  intro he
  unfold ofN at he
  have h1 := regs_lt (r := 4294967295) (by omega) vs
  have h2 := regs_lt (r := 4294967295) (by omega) ws
  have h3 : regs 4294967295 vs = regs 4294967295 ws := by omega
  have h4 : regs 4294967295 vs ^^^ regs 4294967295 ws = 0 := by rw [h3, Nat.xor_self]
  rw [regs_rn, regs_rn, hl, rn_xor, Nat.xor_self] at h4
  have h5 := (rn_burst _ a t ht h0 (64 * ws.length) (fun i hi => by
    show (bitAt vs i != bitAt ws i) = _
    rw [h i hi]
    cases bitAt ws i <;> simp)).2 (64 * ws.length - a) (by omega)
  rw [h4] at h5
  have h6 : t / 2 ^ (64 * ws.length - a) = 0 := Nat.div_eq_of_lt (Nat.lt_of_lt_of_le ht (Nat.pow_le_pow_right (by omega) (by omega)))
  rw [h6] at h5
  exact h5 rfl

/-- bit p of words, turned -/
def flip (xs : List Nat) (p : Nat) : List Nat := xs.set (p / 64) (xs.getD (p / 64) 0 ^^^ 2 ^ (p % 64))
theorem flip_len (xs : List Nat) (p : Nat) : (flip xs p).length = xs.length := by unfold flip; simp
theorem flip_lt (xs : List Nat) (p : Nat) (h : ∀ x ∈ xs, x < 2 ^ 64) : ∀ x ∈ flip xs p, x < 2 ^ 64 := by
  intro x hx
  unfold flip at hx
  rcases List.mem_or_eq_of_mem_set hx with hx | rfl
  · exact h x hx
  · refine Nat.xor_lt_two_pow ?_ (Nat.pow_lt_pow_right (by omega) (by omega))
    by_cases hp : p / 64 < xs.length
    · rw [List.getD, List.getElem?_eq_getElem hp]; exact h _ (List.getElem_mem _)
    · rw [List.getD, List.getElem?_eq_none (by omega)]; simp
theorem flip_bit (xs : List Nat) (p q : Nat) (h : p / 64 < xs.length) : bitAt (flip xs p) q = (bitAt xs q != decide (q = p)) := by
  unfold bitAt flip
  by_cases hq : q / 64 = p / 64
  · rw [hq]
    simp only [List.getD, List.getElem?_set_self h, Option.getD_some]
    rw [Nat.testBit_xor, Nat.testBit_two_pow]
    have : decide (p % 64 = q % 64) = decide (q = p) := by
      congr 1
      exact propext ⟨fun h => by omega, fun h => by omega⟩
    rw [this]
  · simp only [List.getD]
    rw [List.getElem?_set_ne (by omega)]
    have : q ≠ p := fun e => hq (by rw [e])
    simp [this]

/-- words of which the first i bits from a on are turned as t says -/
def turned (ws : List Nat) (a t : Nat) : Nat → List Nat
  | 0 => ws
  | i + 1 => if t.testBit i then flip (turned ws a t i) (a + i) else turned ws a t i
theorem turned_len (ws : List Nat) (a t i : Nat) : (turned ws a t i).length = ws.length := by
  induction i with
  | zero => rfl
  | succ i ih => unfold turned; split <;> simp [flip_len, ih]
theorem turned_lt (ws : List Nat) (a t i : Nat) (h : ∀ x ∈ ws, x < 2 ^ 64) : ∀ x ∈ turned ws a t i, x < 2 ^ 64 := by
  induction i with
  | zero => exact h
  | succ i ih =>
    unfold turned
    split
    · exact flip_lt _ _ ih
    · exact ih
theorem turned_bit (ws : List Nat) (a t i q : Nat) (h : a + i ≤ 64 * ws.length) : bitAt (turned ws a t i) q = (bitAt ws q != (decide (a ≤ q ∧ q < a + i) && t.testBit (q - a))) := by
  induction i with
  | zero =>
    have : decide (a ≤ q ∧ q < a + 0) = false := decide_eq_false (by omega)
    rw [this]
    simp [turned]
  | succ i ih =>
    have ih := ih (by omega)
    unfold turned
    by_cases hb : t.testBit i
    · rw [if_pos hb, flip_bit _ _ _ (by rw [turned_len]; omega), ih]
      by_cases hq : q = a + i
      · subst hq
        simp [hb]
      · have e : (decide (a ≤ q ∧ q < a + (i + 1))) = decide (a ≤ q ∧ q < a + i) := by
          congr 1
          exact propext ⟨fun h => by omega, fun h => by omega⟩
        rw [e]
        simp [hq]
    · rw [if_neg hb, ih]
      by_cases hq : q = a + i
      · subst hq
        simp [hb]
      · have e : (decide (a ≤ q ∧ q < a + (i + 1))) = decide (a ≤ q ∧ q < a + i) := by
          congr 1
          exact propext ⟨fun h => by omega, fun h => by omega⟩
        rw [e]
theorem turned_ne (ws : List Nat) (a t : Nat) (ht : t < 2 ^ 32) (h0 : t ≠ 0) (ha : a + 32 ≤ 64 * ws.length) : ofN (turned ws a t 32) ≠ ofN ws := by
  refine ofN_ne ws _ a t (turned_len _ _ _ _) ht h0 ha fun p hp => ?_
  rw [turned_bit _ _ _ _ _ ha]
  by_cases h1 : p < a + 32
  · have e : (decide (a ≤ p ∧ p < a + 32)) = decide (a ≤ p) := by
      congr 1
      exact propext ⟨fun h => by omega, fun h => by omega⟩
    rw [e]
  · have h2 : t.testBit (p - a) = false := Nat.testBit_lt_two_pow (Nat.lt_of_lt_of_le ht (Nat.pow_le_pow_right (by omega) (by omega)))
    rw [h2]
    simp
end Go.Proofs.Ytdhpjlbcldcfjaa.SM
