/-
  Contracts of conf's and nacreref04's bytes and words.
-/
import Derived.Test.YtbaofpdjfoaiiaaDoorConfMore
import Derived.Deep.RegionHeld3
import Derived.IntWalk
import Derived.KernelRfl
namespace Go.Proofs.YtbaofpdjfoaiiaaDoor
open Go.ChangeShapes Go.WideShapes Go.ChangeAt Go.RowKit
set_option linter.unusedVariables false

theorem shl_one : ∀ k : Nat, k ≤ 20 → IntKind.i64.wrap (2 ^ k) = ((2 ^ k : Nat) : Int) := by
  intro k hk
  have := pow_bounds k hk
  have e : ((2 : Int) ^ k) = ((2 ^ k : Nat) : Int) := by norm_cast
  rw [e]
  generalize 2 ^ k = g at *
  simp only [IntKind.wrap, IntKind.bits, IntKind.signed]
  simp
  omega
theorem shl_num (p : Int) (k : Nat) (hp : 4 ≤ p) (hp' : p ≤ 1024) (hk : k ≤ 20) : IntKind.i64.wrap (p * 2 ^ k) = ((p.toNat * 2 ^ k : Nat) : Int) := by
  have hb := pow_bounds k hk
  obtain ⟨q, rfl⟩ : ∃ q : Nat, p = q := ⟨p.toNat, by omega⟩
  have e : ((q : Int) * (2 : Int) ^ k) = ((q * 2 ^ k : Nat) : Int) := by norm_cast
  rw [e, Int.toNat_natCast]
  generalize 2 ^ k = g at *
  have h1 : q * g ≤ 1024 * 1048576 := Nat.mul_le_mul (by omega) hb.2
  simp only [IntKind.wrap, IntKind.bits, IntKind.signed]
  simp
  omega
theorem ret_word {k : IntKind} {a b : Int} {c : Bool} (h : a = b) : Ending.returned (.tuple #[.int k a, .bool c]) = .returned (.tuple #[.int k b, .bool c]) := by rw [h]
theorem bytes_page {t p s : Int} (h : rightB t p s = true) : IntKind.i64.wrap (((pageN t p s : Nat) : Int) * p) = ((bytesN t p s : Nat) : Int) := by
  obtain ⟨_, ⟨hp, hp'⟩, hs, hs'⟩ := (rightB_iff t p s).1 h
  rw [page_yes h, bytes_yes h]
  obtain ⟨b1, b2⟩ := pow_bounds s.toNat (by omega)
  obtain ⟨k, rfl⟩ : ∃ k : Nat, p = k := ⟨p.toNat, by omega⟩
  generalize 2 ^ s.toNat = g at *
  have h1 : k * g ≤ 1024 * 1048576 := Nat.mul_le_mul (by omega) b2
  have h2 : ((g : Int) * (k : Int)) = ((k * g : Nat) : Int) := by rw [Nat.mul_comm]; norm_cast
  rw [h2, Int.toNat_natCast]
  simp only [IntKind.wrap, IntKind.bits, IntKind.signed]
  simp
  omega

/-- a configuration's word; 0 where it is not right -/
def wordN (t p s : Int) : Nat := if rightB t p s then t.toNat + p.toNat * 65536 + s.toNat * 4294967296 else 0
theorem word_yes {t p s : Int} (h : rightB t p s = true) : wordN t p s = t.toNat + p.toNat * 65536 + s.toNat * 4294967296 := by unfold wordN; rw [if_pos h]
theorem word_no {t p s : Int} (h : rightB t p s = false) : wordN t p s = 0 := by unfold wordN; rw [h]; rfl

/-- put into a field of a word that has nothing there, nor above -/
theorem put_new (x a v : Nat) (ha : a + 16 ≤ 64) (hx : x < 2 ^ a) (hv : v < 65536) : HM.putN x a 16 v = x + v * 2 ^ a := by
  have hx64 : x < 2 ^ 64 := Nat.lt_of_lt_of_le hx (Nat.pow_le_pow_right (by omega) (by omega))
  have h1 : x + v * 2 ^ a = 2 ^ a * v + x := by rw [Nat.mul_comm, Nat.add_comm]
  have hlt : 2 ^ a * v + x < 2 ^ 64 := by
    have e : (2 : Nat) ^ 64 = 2 ^ a * 2 ^ (64 - a) := by rw [← Nat.pow_add]; congr 1; omega
    have e2 : (2 : Nat) ^ 16 ≤ 2 ^ (64 - a) := Nat.pow_le_pow_right (by omega) (by omega)
    have e3 : 2 ^ a * (v + 1) ≤ 2 ^ a * 2 ^ (64 - a) := Nat.mul_le_mul_left _ (by omega)
    rw [Nat.mul_succ] at e3
    rw [e]
    omega
  rw [h1]
  apply Nat.eq_of_testBit_eq
  intro i
  by_cases hi : i < 64
  · rw [HM.bit_putN x a 16 v i ha hv hi, Nat.testBit_two_pow_mul_add _ hx]
    by_cases h2 : i < a
    · rw [if_neg (by omega), if_pos h2]
    · rw [if_neg h2]
      by_cases h3 : i < a + 16
      · rw [if_pos ⟨by omega, h3⟩]
      · rw [if_neg (by omega), Nat.testBit_lt_two_pow (Nat.lt_of_lt_of_le hx (Nat.pow_le_pow_right (by omega) (by omega))), Nat.testBit_lt_two_pow (Nat.lt_of_lt_of_le hv (show 65536 ≤ 2 ^ (i - a) from Nat.pow_le_pow_right (n := 2) (by omega) (show 16 ≤ i - a by omega)))]
  · rw [HM.bit_high (HM.putN_lt x a 16 v ha hv) (by omega), HM.bit_high hlt (by omega)]
theorem cfPut_c (x a v : Nat) (ha : a + 16 ≤ 64) (hx : x < 2 ^ a) (hv : v < 65536) (y : Nat) (hy : x + v * 2 ^ a = y) (w : World) :
    Calls Tryd.prog 70 #[.int .u64 (x : Int), .int .i64 (a : Int), .int .i64 16, .int .u64 (v : Int)] w fun e w' => e = .returned (.tuple #[.int .u64 (y : Int), .bool true]) ∧ ∃ n, w' = w.drewN n := by
  have hx64 : x < 2 ^ 64 := Nat.lt_of_lt_of_le hx (Nat.pow_le_pow_right (by omega) (by omega))
  refine (Put_c x v a 16 hx64 (by omega) (by omega) (by omega) (by omega) (by omega) w).mono ?_
  rintro e w' ⟨rfl, hw⟩
  have hk : putOk a 16 v = true := by
    unfold putOk
    rw [fieldB_yes (by omega) (by omega) (by omega)]
    simpa using hv
  have e1 : putI x a 16 v = y := by
    unfold putI
    rw [if_pos hk]
    exact (put_new x a v ha hx hv).trans hy
  rw [hk, e1]
  exact ⟨rfl, hw⟩


/-! conf's own pages and bytes -/
theorem cfPage1_c (t p s : Int) (g : Nat) (w : World) (hc : Held w g 23 #[.int .i64 t, .int .i64 p, .int .i64 s]) (hs : 10 ≤ s) (hs' : s ≤ 20) :
    Calls Tryd.prog 73 #[.pointer (some ⟨g, 0, none⟩)] w fun e w' => e = .returned (.int .i64 ((2 ^ s.toNat : Nat) : Int)) ∧ w = w' := by
  obtain ⟨c0, c1, c2⟩ := hc.three
  have HS := hidp (shl_one s.toNat (by omega))
  go_enter Tryd.func73, Tryd.ntmps73
  go_wp2
  go_ret
  exact ⟨ret_int ((IntWalk.i64_left _).symm.trans HS.out), rfl⟩
theorem cfBytes1_c (t p s : Int) (g : Nat) (w : World) (hc : Held w g 23 #[.int .i64 t, .int .i64 p, .int .i64 s]) (hp : 4 ≤ p) (hp' : p ≤ 1024) (hs : 10 ≤ s) (hs' : s ≤ 20) :
    Calls Tryd.prog 79 #[.pointer (some ⟨g, 0, none⟩)] w fun e w' => e = .returned (.int .i64 ((p.toNat * 2 ^ s.toNat : Nat) : Int)) ∧ w = w' := by
  obtain ⟨c0, c1, c2⟩ := hc.three
  have HS := hidp (shl_num p s.toNat hp hp' (by omega))
  go_enter Tryd.func79, Tryd.ntmps79
  go_wp2
  go_ret
  exact ⟨ret_int ((IntWalk.i64_left _).symm.trans HS.out), rfl⟩

theorem cfOfPage_c (t p s : Int) (g : Nat) (w : World) (hc : Held w g 23 #[.int .i64 t, .int .i64 p, .int .i64 s]) :
    Calls Tryd.prog 72 #[.agg #[.int .i64 t, .int .i64 p, .int .i64 s], .func (.func 73) #[] #[.pointer (some ⟨g, 0, none⟩)]] w fun e w' => e = .returned (.int .i64 ((pageN t p s : Nat) : Int)) ∧ Below w.heap.size w w' := by
  cases hr : rightB t p s
  · have HP := hidp (page_no hr)
    have HK := hidp (check_no hr)
    clear hr
    go_enter Tryd.func72, Tryd.ntmps72
    go_wp2_with fail
    refine (cfCheck_c t p s _).mono ?_
    rintro e w1 ⟨rfl, hb1⟩
    rw [HK.out]
    go_wp2
    go_ret
    exact ⟨by rw [HP.out]; rfl, Bgo (Bnew (B0 _) _) hb1⟩
  · have HP := hidp (page_yes hr)
    have HK := hidp (check_yes hr)
    obtain ⟨_, ⟨h4, h1024⟩, h10, h20⟩ := (rightB_iff t p s).1 hr
    clear hr
    go_enter Tryd.func72, Tryd.ntmps72
    go_wp2_with fail
    refine (cfCheck_c t p s _).mono ?_
    rintro e w1 ⟨rfl, hb1⟩
    rw [HK.out]
    have hc1 := (hc.alloc (.cells #[.int .i64 t, .int .i64 p, .int .i64 s] 23)).keep hb1
    go_wp2_with fail
    refine (cfPage1_c t p s g _ hc1 h10 h20).mono ?_
    rintro e w2 ⟨rfl, rfl⟩
    rw [← HP.out]
    go_wp2
    go_ret
    exact ⟨rfl, Bgo (Bnew (B0 _) _) hb1⟩
theorem cfPage_c (t p s : Int) (w : World) :
    Calls Tryd.prog 54 #[.agg #[.int .i64 t, .int .i64 p, .int .i64 s]] w fun e w' => e = .returned (.int .i64 ((pageN t p s : Nat) : Int)) ∧ Below w.heap.size w w' := by
  go_enter Tryd.func54, Tryd.ntmps54
  go_wp2_with fail
  refine (cfOfPage_c t p s _ _ (Held.new w _ _)).mono ?_
  rintro e w1 ⟨rfl, hb1⟩
  go_wp2
  go_ret
  exact ⟨rfl, Bgo (Bnew (B0 _) _) hb1⟩

theorem cfOfBytes_c (t p s : Int) (g : Nat) (w : World) (hc : Held w g 23 #[.int .i64 t, .int .i64 p, .int .i64 s]) :
    Calls Tryd.prog 72 #[.agg #[.int .i64 t, .int .i64 p, .int .i64 s], .func (.func 79) #[] #[.pointer (some ⟨g, 0, none⟩)]] w fun e w' => e = .returned (.int .i64 ((bytesN t p s : Nat) : Int)) ∧ Below w.heap.size w w' := by
  cases hr : rightB t p s
  · have HP := hidp (bytes_no hr)
    have HK := hidp (check_no hr)
    clear hr
    go_enter Tryd.func72, Tryd.ntmps72
    go_wp2_with fail
    refine (cfCheck_c t p s _).mono ?_
    rintro e w1 ⟨rfl, hb1⟩
    rw [HK.out]
    go_wp2
    go_ret
    exact ⟨by rw [HP.out]; rfl, Bgo (Bnew (B0 _) _) hb1⟩
  · have HP := hidp (bytes_yes hr)
    have HK := hidp (check_yes hr)
    obtain ⟨_, ⟨h4, h1024⟩, h10, h20⟩ := (rightB_iff t p s).1 hr
    clear hr
    go_enter Tryd.func72, Tryd.ntmps72
    go_wp2_with fail
    refine (cfCheck_c t p s _).mono ?_
    rintro e w1 ⟨rfl, hb1⟩
    rw [HK.out]
    have hc1 := (hc.alloc (.cells #[.int .i64 t, .int .i64 p, .int .i64 s] 23)).keep hb1
    go_wp2_with fail
    refine (cfBytes1_c t p s g _ hc1 h4 h1024 h10 h20).mono ?_
    rintro e w2 ⟨rfl, rfl⟩
    rw [← HP.out]
    go_wp2
    go_ret
    exact ⟨rfl, Bgo (Bnew (B0 _) _) hb1⟩
theorem cfBytes_c (t p s : Int) (w : World) :
    Calls Tryd.prog 74 #[.agg #[.int .i64 t, .int .i64 p, .int .i64 s]] w fun e w' => e = .returned (.int .i64 ((bytesN t p s : Nat) : Int)) ∧ Below w.heap.size w w' := by
  go_enter Tryd.func74, Tryd.ntmps74
  go_wp2_with fail
  refine (cfOfBytes_c t p s _ _ (Held.new w _ _)).mono ?_
  rintro e w1 ⟨rfl, hb1⟩
  go_wp2
  go_ret
  exact ⟨rfl, Bgo (Bnew (B0 _) _) hb1⟩


end Go.Proofs.YtbaofpdjfoaiiaaDoor
