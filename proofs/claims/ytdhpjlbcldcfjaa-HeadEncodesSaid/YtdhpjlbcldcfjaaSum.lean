/-
  Contracts of the functions of package sum and of the document's answers to it.
-/
import Derived.Test.YtdhpjlbcldcfjaaHalf
import Derived.Test.YtdhpjlbcldcfjaaSumMath
namespace Go.Proofs.Ytdhpjlbcldcfjaa
open Go.ChangeShapes Go.WideShapes Go.ChangeAt Go.RowKit
set_option linter.unusedVariables false

/-! the code -/
theorem First_c (w : World) : Calls Try.prog 28 #[] w fun e w' => e = .returned (.int .u32 4294967295) ∧ w = w' := by
  go_enter Try.func28, Try.ntmps28
  go_wp2
  go_ret
  exact ⟨rfl, rfl⟩
theorem not_u32 (r : Nat) (h : r < 2 ^ 32) : bits .xor .u32 IntKind.u32.max (r : Int) = ((4294967295 - r : Nat) : Int) := by
  have e := u32_xor_nat 4294967295 r (by omega) h
  have e2 : 4294967295 ^^^ r = 4294967295 - r := by
    refine Nat.eq_of_testBit_eq fun i => ?_
    have h1 := Nat.testBit_two_pow_sub_succ (n := 32) (x := r) h i
    have h2 := Nat.testBit_two_pow_sub_one 32 i
    rw [show 4294967295 - r = 2 ^ 32 - (r + 1) from by omega, h1, Nat.testBit_xor, show (4294967295 : Nat) = 2 ^ 32 - 1 from rfl, h2]
    by_cases hi : i < 32
    · simp [hi]
    · simp [hi, Nat.testBit_lt_two_pow (Nat.lt_of_lt_of_le h (Nat.pow_le_pow_right (by omega) (Nat.le_of_not_lt hi)))]
  rw [e2] at e
  exact e
theorem Last_c (r : Nat) (hr : r < 2 ^ 32) (w : World) : Calls Try.prog 30 #[.int .u32 (r : Int)] w fun e w' => e = .returned (.int .u32 ((4294967295 - r : Nat) : Int)) ∧ w = w' := by
  go_enter Try.func30, Try.ntmps30
  go_wp2
  go_ret
  exact ⟨ret_int (not_u32 r hr), rfl⟩
theorem and_one32 (n : Nat) (h : n < 2 ^ 32) : bits .and .u32 (n : Int) 1 = ((n % 2 : Nat) : Int) := by
  have := u32_and_nat n 1 h (by omega)
  rw [nat_mask1] at this
  exact this
theorem and_one64 (n : Nat) (h : n < 2 ^ 64) : bits .and .u64 (n : Int) 1 = ((n % 2 : Nat) : Int) := by
  have := u64_and_nat n 1 h (by omega)
  rw [nat_mask1] at this
  exact this
theorem move_math (r : Nat) (h : r < 2 ^ 32) : bits .xor .u32 ((r : Int) / 2) (IntKind.u32.wrap (2197175160 * bits .and .u32 (r : Int) 1)) = ((SM.stp r false : Nat) : Int) := by
  rw [and_one32 r h]
  have e : (r : Int) / 2 = ((r / 2 : Nat) : Int) := by omega
  unfold SM.stp
  rw [Nat.testBit_zero, e]
  rcases Nat.mod_two_eq_zero_or_one r with h0 | h0
  · rw [h0, show IntKind.u32.wrap (2197175160 * ((0 : Nat) : Int)) = ((0 : Nat) : Int) from rfl, u32_xor_nat (r / 2) 0 (by omega) (by omega)]
    simp
  · rw [h0, show IntKind.u32.wrap (2197175160 * ((1 : Nat) : Int)) = ((2197175160 : Nat) : Int) from rfl, u32_xor_nat (r / 2) 2197175160 (by omega) (by omega)]
    simp
theorem move_c (r : Nat) (hr : r < 2 ^ 32) (w : World) : Calls Try.prog 42 #[.int .u32 (r : Int)] w fun e w' => e = .returned (.int .u32 ((SM.stp r false : Nat) : Int)) ∧ w = w' := by
  go_enter Try.func42, Try.ntmps42
  go_wp2
  go_ret
  exact ⟨ret_int (move_math r hr), rfl⟩
theorem xor_const (r : Nat) (hr : r < 2 ^ 32) : bits .xor .u32 ((r : Int) / 2) 2197175160 = ((r / 2 ^^^ 2197175160 : Nat) : Int) := by
  have e : (r : Int) / 2 = ((r / 2 : Nat) : Int) := by omega
  rw [e]
  exact u32_xor_nat (r / 2) 2197175160 (by omega) (by omega)
theorem odd_nat (r : Nat) : (((r : Int) % 2) == 1) = r.testBit 0 := by
  have := odd_bit r 0
  simpa using this
theorem r2bit_c (r : Nat) (b : Bool) (hr : r < 2 ^ 32) (w : World) : Calls Try.prog 44 #[.int .u32 (r : Int), .bool b] w fun e w' => e = .returned (.int .u32 ((SM.stp r b : Nat) : Int)) ∧ w = w' := by
  have HX := hidp (xor_const r hr)
  have HO := hidp (odd_nat r)
  go_enter Try.func44, Try.ntmps44
  go_wp2
  · rename_i h
    go_ret
    exact ⟨ret_int (by rw [HO.out] at h; rw [HX.out]; unfold SM.stp; rw [if_pos]; simpa using h), rfl⟩
  · rename_i h
    go_ret
    exact ⟨ret_int (by rw [HO.out] at h; unfold SM.stp; rw [if_neg (by simpa using h)]; omega), rfl⟩

/-- a bit that is laid over, then moved -/
theorem stp_over (r : Nat) (b : Bool) : SM.stp (r ^^^ b.toNat) false = SM.stp r b := by
  have h := SM.stp_xor r b.toNat b b
  have h2 : SM.stp b.toNat b = 0 := by cases b <;> rfl
  rw [h2] at h
  simpa using h.symm
theorem over_math (r x k : Nat) (hr : r < 2 ^ 32) (hx : x < 2 ^ 64) : bits .xor .u32 (r : Int) (bits .and .u64 ((x : Int) / 2 ^ k) 1 % 4294967296) = ((r ^^^ (x.testBit k).toNat : Nat) : Int) := by
  rw [shr_cast, and_one64 _ (Nat.lt_of_le_of_lt (Nat.div_le_self _ _) hx)]
  have e : x / 2 ^ k % 2 = (x.testBit k).toNat := by
    rw [Nat.testBit_eq_decide_div_mod_eq]
    rcases Nat.mod_two_eq_zero_or_one (x / 2 ^ k) with h | h <;> simp [h]
  rw [e]
  have hb : (x.testBit k).toNat < 2 ^ 32 := by cases x.testBit k <;> decide
  have e2 : (((x.testBit k).toNat : Nat) : Int) % 4294967296 = (((x.testBit k).toNat : Nat) : Int) := by omega
  rw [e2]
  exact u32_xor_nat r _ hr hb
theorem Next_c (r x : Nat) (hr : r < 2 ^ 32) (hx : x < 2 ^ 64) (w : World) :
    Calls Try.prog 29 #[.int .u32 (r : Int), .int .u64 (x : Int)] w fun e w' => e = .returned (.int .u32 ((SM.nextN r x : Nat) : Int)) ∧ w = w' := by
  go_enter Try.func29, Try.ntmps29
  go_wp2
  go_loop [0, 6] (fun q i => ∃ k : Nat, k ≤ 64 ∧ i = .int .i64 k ∧ q = .int .u32 ((SM.nx r x k : Nat) : Int)) (fun _ i => 64 - (intOf i).toNat)
  case atStart => exact ⟨0, by omega, rfl, rfl⟩
  case round =>
    obtain ⟨k, hk, rfl, rfl⟩ := hrel
    by_cases hlt : k < 64
    · have HN := hidp (over_math (SM.nx r x k) x k (SM.nx_lt hr x k) hx)
      have hb : SM.nx r x k ^^^ (x.testBit k).toNat < 2 ^ 32 := Nat.xor_lt_two_pow (SM.nx_lt hr x k) (by cases x.testBit k <;> decide)
      have HS : Hid (SM.stp (SM.nx r x k ^^^ (x.testBit k).toNat) false = SM.nx r x (k + 1)) := hidp ((stp_over _ _).trans (SM.nx_succ r x k).symm)
      have hn := SM.nx_lt hr x k
      generalize SM.nx r x k ^^^ (x.testBit k).toNat = y at *
      go_wp2_with fail
      rw [HN.out]
      refine (move_c y hb _).mono ?_
      rintro e w' ⟨rfl, rfl⟩
      rw [HS.out]
      go_wp2
      go_round
      case rel => exact ⟨k + 1, by omega, by go_num, rfl⟩
      case measure => simp [intOf]; omega
    · obtain rfl : k = 64 := by omega
      go_wp2
      go_ret
      exact ⟨rfl, rfl⟩
theorem RNext_c (r x : Nat) (hr : r < 2 ^ 32) (hx : x < 2 ^ 64) (w : World) :
    Calls Try.prog 33 #[.int .u32 (r : Int), .int .u64 (x : Int)] w fun e w' => e = .returned (.int .u32 ((SM.nextN r x : Nat) : Int)) ∧ w = w' := by
  have HL : Hid (∀ k : Nat, k < 32 → (x % 4294967296).testBit ((k : Int).toNat) = x.testBit k) := hidp (fun k hk => by
    rw [show (4294967296 : Nat) = 2 ^ 32 from rfl, Nat.testBit_mod_two_pow, Int.toNat_natCast]; simp [hk])
  have HH : Hid (∀ k : Nat, (x / 4294967296).testBit ((k : Int).toNat) = x.testBit (32 + k)) := hidp (fun k => by
    rw [show (4294967296 : Nat) = 2 ^ 32 from rfl, Nat.testBit_div_two_pow, Int.toNat_natCast, Nat.add_comm])
  go_enter Try.func33, Try.ntmps33
  go_wp2
  go_loop [0, 5] (fun q i => ∃ k : Nat, k ≤ 32 ∧ i = .int .i64 k ∧ q = .int .u32 ((SM.nx r x k : Nat) : Int)) (fun _ i => 32 - (intOf i).toNat)
  case atStart => exact ⟨0, by omega, rfl, rfl⟩
  case round =>
    obtain ⟨k, hk, rfl, rfl⟩ := hrel
    have hn := SM.nx_lt hr x k
    by_cases hlt : k < 32
    · have HS := hidp (SM.nx_succ r x k)
      have HT := hidp (HL.out k hlt)
      go_wp2_with fail
      refine (RLo_c x hx _).mono ?_
      rintro e w' ⟨rfl, rfl⟩
      go_wp2_with fail
      refine (Bit_c _ k _ (by omega) (by omega) (by omega) HT.out _).mono ?_
      rintro e w' ⟨rfl, rfl⟩
      go_wp2_with fail
      refine (r2bit_c _ _ hn _).mono ?_
      rintro e w' ⟨rfl, rfl⟩
      rw [← HS.out]
      go_wp2
      go_round
      case rel => exact ⟨k + 1, by omega, by go_num, rfl⟩
      case measure => simp [intOf]; omega
    · obtain rfl : k = 32 := by omega
      go_wp2
      go_loop [0, 6] (fun q i => ∃ k : Nat, k ≤ 32 ∧ i = .int .i64 k ∧ q = .int .u32 ((SM.nx r x (32 + k) : Nat) : Int)) (fun _ i => 32 - (intOf i).toNat)
      case atStart => exact ⟨0, by omega, rfl, rfl⟩
      case round =>
        obtain ⟨k, hk, rfl, rfl⟩ := hrel
        have hn := SM.nx_lt hr x (32 + k)
        by_cases hlt : k < 32
        · have HS := hidp (SM.nx_succ r x (32 + k))
          have HT := hidp (HH.out k)
          go_wp2_with fail
          refine (RHi_c x hx _).mono ?_
          rintro e w' ⟨rfl, rfl⟩
          go_wp2_with fail
          refine (Bit_c _ k _ (by omega) (by omega) (by omega) HT.out _).mono ?_
          rintro e w' ⟨rfl, rfl⟩
          go_wp2_with fail
          refine (r2bit_c _ _ hn _).mono ?_
          rintro e w' ⟨rfl, rfl⟩
          rw [← HS.out]
          go_wp2
          go_round
          case rel => exact ⟨k + 1, by omega, by go_num, rfl⟩
          case measure => simp [intOf]; omega
        · obtain rfl : k = 32 := by omega
          go_wp2
          go_ret
          exact ⟨rfl, rfl⟩
theorem Of_c (A : Option Addr) (c : Nat) (ws : List Nat) (h64 : ∀ x ∈ ws, x < 2 ^ 64) (hm : ws.length ≤ maxLen) (w : World) (B : Nat) (hr : Reads w B 1 A ws.length (wordVs ws)) :
    Calls Try.prog 16 #[.slice A ws.length c] w fun e w' => e = .returned (.int .u32 ((SM.ofN ws : Nat) : Int)) ∧ w = w' := by
  unfold maxLen at hm
  have HR := hidp hr
  have HB : Hid (∀ k, SM.regs 4294967295 (ws.take k) < 2 ^ 32) := hidp (fun k => SM.regs_lt (by omega) _)
  have H64 : Hid (∀ k, ws.getD k 0 < 2 ^ 64) := hidp (fun k => getD_lt (by omega) h64 k)
  have HS : Hid (∀ k, k < ws.length → SM.regs 4294967295 (ws.take (k + 1)) = SM.nextN (SM.regs 4294967295 (ws.take k)) (ws.getD k 0)) := hidp (fun k hk => SM.regs_take _ _ _ hk)
  have HV : Hid (∀ k, k < ws.length → (wordVs ws)[k]? = some (.int .u64 ((ws.getD k 0 : Nat) : Int))) := hidp (fun k hk => wordVs_at ws k hk)
  have HE : Hid (SM.regs 4294967295 (ws.take ws.length) = SM.regs 4294967295 ws) := hidp (by rw [List.take_length])
  have H0 : Hid (SM.regs 4294967295 (ws.take 0) = 4294967295) := hidp rfl
  clear hr h64
  generalize hn : ws.length = n at *
  clear hn
  go_enter Try.func16, Try.ntmps16
  go_wp2_with (go_at_call 28; refine (First_c _).mono ?_; rintro e w' ⟨rfl, rfl⟩)
  go_loop [3, 9] (fun q i => ∃ k : Nat, k ≤ n ∧ i = .int .i64 k ∧ q = .int .u32 ((SM.regs 4294967295 (ws.take k) : Nat) : Int)) (fun _ i => n - (intOf i).toNat)
  case atStart => exact ⟨0, by omega, rfl, by rw [H0.out]; rfl⟩
  case round =>
    obtain ⟨k, hk, rfl, rfl⟩ := hrel
    have hq := HB.out k
    by_cases hlt : k < n
    · obtain ⟨ad, u, rfl, _, hx, hc⟩ := HR.out.at_ hlt
      have HT := hidp (HS.out k hlt)
      have h64 := H64.out k
      have hu := HV.out k hlt
      rw [hx] at hu
      injection hu with hu
      subst hu
      have HX := hidp hx
      clear hx
      generalize ws.getD k 0 = x at *
      go_wp2_with fail
      refine (Next_c _ x hq h64 _).mono ?_
      rintro e w' ⟨rfl, rfl⟩
      rw [← HT.out]
      go_wp2
      go_round
      case rel => exact ⟨k + 1, by omega, by go_num, rfl⟩
      case measure => simp [intOf]; omega
    · obtain rfl : k = n := by omega
      go_wp2_with fail
      refine (Last_c _ hq _).mono ?_
      rintro e w' ⟨rfl, rfl⟩
      go_wp2
      go_ret
      exact ⟨ret_int (by rw [HE.out]; rfl), rfl⟩
theorem ROf_c (A : Option Addr) (c : Nat) (ws : List Nat) (h64 : ∀ x ∈ ws, x < 2 ^ 64) (hm : ws.length ≤ maxLen) (w : World) (B : Nat) (hr : Reads w B 1 A ws.length (wordVs ws)) :
    Calls Try.prog 19 #[.slice A ws.length c] w fun e w' => e = .returned (.int .u32 ((SM.ofN ws : Nat) : Int)) ∧ w = w' := by
  unfold maxLen at hm
  have HR := hidp hr
  have HB : Hid (∀ k, SM.regs 4294967295 (ws.take k) < 2 ^ 32) := hidp (fun k => SM.regs_lt (by omega) _)
  have H64 : Hid (∀ k, ws.getD k 0 < 2 ^ 64) := hidp (fun k => getD_lt (by omega) h64 k)
  have HS : Hid (∀ k, k < ws.length → SM.regs 4294967295 (ws.take (k + 1)) = SM.nextN (SM.regs 4294967295 (ws.take k)) (ws.getD k 0)) := hidp (fun k hk => SM.regs_take _ _ _ hk)
  have HV : Hid (∀ k, k < ws.length → (wordVs ws)[k]? = some (.int .u64 ((ws.getD k 0 : Nat) : Int))) := hidp (fun k hk => wordVs_at ws k hk)
  have HE : Hid (SM.regs 4294967295 (ws.take ws.length) = SM.regs 4294967295 ws) := hidp (by rw [List.take_length])
  have H0 : Hid (SM.regs 4294967295 (ws.take 0) = 4294967295) := hidp rfl
  clear hr h64
  generalize hn : ws.length = n at *
  clear hn
  go_enter Try.func19, Try.ntmps19
  go_wp2
  go_loop [3, 4] (fun q i => ∃ k : Nat, k ≤ n ∧ i = .int .i64 k ∧ q = .int .u32 ((SM.regs 4294967295 (ws.take k) : Nat) : Int)) (fun _ i => n - (intOf i).toNat)
  case atStart => exact ⟨0, by omega, rfl, by rw [H0.out]; rfl⟩
  case round =>
    obtain ⟨k, hk, rfl, rfl⟩ := hrel
    have hq := HB.out k
    by_cases hlt : k < n
    · obtain ⟨ad, u, rfl, _, hx, hc⟩ := HR.out.at_ hlt
      have HT := hidp (HS.out k hlt)
      have h64 := H64.out k
      have hu := HV.out k hlt
      rw [hx] at hu
      injection hu with hu
      subst hu
      have HX := hidp hx
      clear hx
      generalize ws.getD k 0 = x at *
      go_wp2_with fail
      refine (RNext_c _ x hq h64 _).mono ?_
      rintro e w' ⟨rfl, rfl⟩
      rw [← HT.out]
      go_wp2
      go_round
      case rel => exact ⟨k + 1, by omega, by go_num, rfl⟩
      case measure => simp [intOf]; omega
    · obtain rfl : k = n := by omega
      go_wp2
      go_ret
      exact ⟨ret_int (by rw [HE.out]; unfold SM.ofN; have := HB.out k; rw [HE.out] at this; omega), rfl⟩
theorem Of_n (A : Option Addr) (c n : Nat) (ws : List Nat) (hn : Hid (ws.length = n)) (h64 : Hid (∀ x ∈ ws, x < 2 ^ 64)) (hm : Hid (n ≤ maxLen)) (w : World) (B : Nat) (hr : Reads w B 1 A n (wordVs ws)) :
    Calls Try.prog 16 #[.slice A n c] w fun e w' => e = .returned (.int .u32 ((SM.ofN ws : Nat) : Int)) ∧ w = w' := by
  obtain rfl := hn.out
  exact Of_c A c ws h64.out hm.out w B hr
theorem ROf_n (A : Option Addr) (c n : Nat) (ws : List Nat) (hn : Hid (ws.length = n)) (h64 : Hid (∀ x ∈ ws, x < 2 ^ 64)) (hm : Hid (n ≤ maxLen)) (w : World) (B : Nat) (hr : Reads w B 1 A n (wordVs ws)) :
    Calls Try.prog 19 #[.slice A n c] w fun e w' => e = .returned (.int .u32 ((SM.ofN ws : Nat) : Int)) ∧ w = w' := by
  obtain rfl := hn.out
  exact ROf_c A c ws h64.out hm.out w B hr
end Go.Proofs.Ytdhpjlbcldcfjaa
