/-
  What bin.Of, isPage, begins, isLong, and the document's Of, Info, do.
-/
import Derived.Test.YtlpcdfcghgapkaaGreatB04
import Derived.Test.YtlpcdfcghgapkaaGreatB02
import Derived.Below
import Derived.Test.YtlpcdfcghgapkaaGreatB03
import Derived.Test.YtlpcdfcghgapkaaGreatB01
import Derived.Laws.MakeOwn
import Derived.Test.YtlpcdfcghgapkaaGreatBKit
namespace Go.Proofs.YtlpcdfcghgapkaaGreat
open Go.ChangeShapes Go.WideShapes Go.ChangeAt Go.RowKit Go.Maps
set_option linter.unusedVariables false
set_option linter.unusedSimpArgs false
set_option maxRecDepth 100000
section
theorem ofI_log {n : Int} (h : n <= 1024) : HM.logI n = ofI n := by
 unfold ofI
 by_cases h1 : n < 1
 ·rw [if_pos (.inl h1), HM.logI_no n h1]
 ·rw [if_neg (by omega)]
theorem ofI_high {n : Int} (h : 1024 < n) : ofI n = -1 := by unfold ofI; rw [if_pos (.inr h)]
theorem addS_yes {n : Nat} {K : Nat -> Option Nat} {t q s : Int} {k m : Nat} {st : Vst} (h : pgB q (k : Int) = true /\ 1 <= (m : Int) /\ (m : Int) <= q - (k : Int)) :
  addS n K t q s (k : Int) (m : Int) st = pushI n K t q s (binH (m : Int)) (k : Int) (putS n (putS n st (pageI t q s (k : Int) 0) (infoV 1 (m : Int) 0)) (pageI t q s ((k : Int) + (m : Int) - 1) 1) (k + 1)) := by
 unfold addS
 rw [if_pos h, Int.toNat_natCast]
theorem bnOf_c (n : Int) (h0 : -9223372036854775808 <= n) (h1 : n <= 9223372036854775807) (w : World) :
  Calls Tryz.prog 38 #[.int .i64 n] w fun e w' => e = .returned (.int .i64 (ofI n)) /\ w = w' := by
 by_cases h : 1024 < n
 ·have t0 : decide ((1024 : Int) < n) = true := decide_eq_true h
  have HO := hidp (ofI_high h)
  go_enter Tryz.func38, Tryz.ntmps38
  go_wp2
  go_ret
  exact ⟨by rw [HO.out]; rfl, rfl⟩
 ·have t0 : decide ((1024 : Int) < n) = false := decide_eq_false h
  have HO : Hid (HM.logI n = ofI n) := hidp (ofI_log (by omega))
  go_enter Tryz.func38, Tryz.ntmps38
  go_wp2_with fail
  refine (Log_c n h0 h1 _).mono ?_
  rintro e w1 ⟨rfl, rfl⟩
  rw [HO.out]
  go_wp2
  go_ret
  exact ⟨rfl, rfl⟩
theorem bnIsPage_c (t q s p : Int) (w : World) :
  Calls Tryz.prog 32 #[.agg #[.int .i64 t, .int .i64 q, .int .i64 s], .int .i64 p] w fun e w' => e = .returned (.bool (pgB q p)) /\ Below w.heap.size w w' := by
 have hB := Bnew (B0 w) (.cells #[.int .i64 t, .int .i64 q, .int .i64 s] 23)
 obtain ⟨x0, x1, x2⟩ := (Held.new w 23 #[.int .i64 t, .int .i64 q, .int .i64 s]).three
 unfold pgB
 by_cases h0 : 0 <= p
 ·have t0 : decide ((0 : Int) <= p) = true := decide_eq_true h0
  obtain ⟨c, t1⟩ : ∃ c, decide (p < q) = c := ⟨_, rfl⟩
  rw [t0, t1]
  cases c with
  | true =>
   go_enter Tryz.func32, Tryz.ntmps32
   go_wp2
   go_ret
   exact ⟨rfl, hB⟩
  | false =>
   go_enter Tryz.func32, Tryz.ntmps32
   go_wp2
   go_ret
   exact ⟨rfl, hB⟩
 ·have t0 : decide ((0 : Int) <= p) = false := decide_eq_false h0
  rw [t0]
  go_enter Tryz.func32, Tryz.ntmps32
  go_wp2
  go_ret
  exact ⟨rfl, hB⟩

section
variable {base b n : Nat} {wh all : Bool} {K : Nat -> Option Nat} {st : Vst} {w w0 : World} {A G : Nat -> Prop} {t q s : Int}
end
end
end Go.Proofs.YtlpcdfcghgapkaaGreat

namespace Go.Proofs.YtlpcdfcghgapkaaGreat.SM

def stp (r : Nat) (b : Bool) : Nat := if (r.testBit 0 != b) then r / 2 ^^^ 2197175160 else r / 2
theorem stp_lt {r : Nat} (h : r < 2 ^ 32) (b : Bool) : stp r b < 2 ^ 32 := by
 unfold stp
 split
 ·exact Nat.xor_lt_two_pow (by omega) (by omega)
 ·omega
theorem half_xor (r s : Nat) : (r ^^^ s) / 2 = r / 2 ^^^ s / 2 := by
 refine Nat.eq_of_testBit_eq fun i => ?_
 rw [Nat.testBit_div_two, Nat.testBit_xor, Nat.testBit_xor, Nat.testBit_div_two, Nat.testBit_div_two]
theorem stp_xor (r s : Nat) (b c : Bool) : stp r b ^^^ stp s c = stp (r ^^^ s) (b != c) := by
 unfold stp
 rw [half_xor, Nat.testBit_xor]
 generalize r / 2 = x
 generalize s / 2 = y
 refine Nat.eq_of_testBit_eq fun i => ?_
 generalize hz : (2197175160 : Nat) = z
 cases r.testBit 0 <;> cases s.testBit 0 <;> cases b <;> cases c <;> simp <;> cases x.testBit i <;> cases y.testBit i <;> cases z.testBit i <;> rfl
def rn (f : Nat -> Bool) (r : Nat) : Nat -> Nat
 | 0 => r
 | p + 1 => stp (rn f r p) (f p)
theorem rn_lt (f : Nat -> Bool) {r : Nat} (h : r < 2 ^ 32) (p : Nat) : rn f r p < 2 ^ 32 := by
 induction p with
 | zero => exact h
 | succ p ih => exact stp_lt ih _
def nx (r x k : Nat) : Nat := rn (fun i => x.testBit i) r k
def nextN (r x : Nat) : Nat := nx r x 64
theorem nx_succ (r x k : Nat) : nx r x (k + 1) = stp (nx r x k) (x.testBit k) := rfl
theorem nx_lt {r : Nat} (h : r < 2 ^ 32) (x k : Nat) : nx r x k < 2 ^ 32 := rn_lt _ h k
def regs (r : Nat) (ws : List Nat) : Nat := ws.foldl nextN r
theorem regs_lt {r : Nat} (h : r < 2 ^ 32) (ws : List Nat) : regs r ws < 2 ^ 32 := by
 unfold regs
 induction ws generalizing r with
 | nil => exact h
 | cons x ws ih => exact ih (nx_lt h x 64)
theorem regs_snoc (r : Nat) (ws : List Nat) (x : Nat) : regs r (ws ++ [x]) = nextN (regs r ws) x := by unfold regs; simp
theorem regs_take (r : Nat) (ws : List Nat) (k : Nat) (h : k < ws.length) : regs r (ws.take (k + 1)) = nextN (regs r (ws.take k)) (ws.getD k 0) := by
 rw [List.take_succ_eq_append_getElem h, regs_snoc]
 simp [List.getD, List.getElem?_eq_getElem h]
def ofN (ws : List Nat) : Nat := 4294967295 - regs 4294967295 ws

end Go.Proofs.YtlpcdfcghgapkaaGreat.SM

namespace Go.Proofs.YtlpcdfcghgapkaaGreat
open Go.ChangeShapes Go.WideShapes Go.ChangeAt Go.RowKit
set_option linter.unusedVariables false
section
def head7 (t p s : Int) : List Nat := [0x4e41435245303031, 1, wordN t p s, (lW t p s).toNat, 0, 0, 0]
def headL (t p s : Int) : List Nat := head7 t p s ++ [SM.ofN (head7 t p s)]
theorem word_lt (t p s : Int) : wordN t p s < 2 ^ 64 := by
 unfold wordN
 split
 ·rename_i h
  have := (rightB_iff t p s).1 h
  omega
 ·omega
theorem headL_len (t p s : Int) : (headL t p s).length = 8 := rfl
theorem head7_lt (t p s : Int) : ∀ x ∈ head7 t p s, x < 2 ^ 64 := by
 have h1 := word_lt t p s
 have h2 := words_bounds t p s
 intro x hx
 simp only [head7, List.mem_cons, List.not_mem_nil, or_false] at hx
 omega
theorem ofN_lt (ws : List Nat) : SM.ofN ws < 2 ^ 32 := by unfold SM.ofN; omega
end
section
theorem First_c (w : World) : Calls Tryz.prog 65 #[] w fun e w' => e = .returned (.int .u32 4294967295) /\ w = w' := by
 go_enter Tryz.func65, Tryz.ntmps65
 go_wp2
 go_ret
 exact ⟨rfl, rfl⟩
theorem not_u32 (r : Nat) (h : r < 2 ^ 32) : bits .xor .u32 IntKind.u32.max (r : Int) = ((4294967295 - r : Nat) : Int) := by
 have e := u32_xor_nat 4294967295 r (by omega) h
 have e2 : 4294967295 ^^^ r = 4294967295 - r := by
  refine Nat.eq_of_testBit_eq fun i => ?_
  have h1 := Nat.testBit_two_pow_sub_succ (n := 32) (x := r) h i
  have h2 := Nat.testBit_two_pow_sub_one 32 i
  rw [show 4294967295 - r = 2 ^ 32 - (r + 1) from by omega, h1, Nat.testBit_xor, show (4294967295 : Nat) = 2 ^ 32 - 1 from rfl, h2]
  by_cases hi : i < 32
  ·simp [hi]
  ·simp [hi, Nat.testBit_lt_two_pow (Nat.lt_of_lt_of_le h (Nat.pow_le_pow_right (by omega) (Nat.le_of_not_lt hi)))]
 rw [e2] at e
 exact e
theorem Last_c (r : Nat) (hr : r < 2 ^ 32) (w : World) : Calls Tryz.prog 67 #[.int .u32 (r : Int)] w fun e w' => e = .returned (.int .u32 ((4294967295 - r : Nat) : Int)) /\ w = w' := by
 go_enter Tryz.func67, Tryz.ntmps67
 go_wp2
 go_ret
 exact ⟨ret_int (not_u32 r hr), rfl⟩
theorem and_one32 (n : Nat) (h : n < 2 ^ 32) : bits .and .u32 (n : Int) 1 = ((n % 2 : Nat) : Int) := by
 have := u32_and_nat n 1 h (by omega)
 rw [nat_mask1] at this
 exact this
theorem and_one64 (n : Nat) (h : n < 2 ^ 64) : bits .and .u64 (n : Int) 1 = ((n % 2 : Nat) : Int) := by
 have := u64_and_nat n 1 h (by omega)
 rw [nat_mask1] at this
 exact this
theorem move_math (r : Nat) (h : r < 2 ^ 32) : bits .xor .u32 ((r : Int) / 2) (IntKind.u32.wrap (2197175160 * bits .and .u32 (r : Int) 1)) = ((SM.stp r false : Nat) : Int) := by
 rw [and_one32 r h]
 have e : (r : Int) / 2 = ((r / 2 : Nat) : Int) := by omega
 unfold SM.stp
 rw [Nat.testBit_zero, e]
 rcases Nat.mod_two_eq_zero_or_one r with h0 | h0
 ·rw [h0, show IntKind.u32.wrap (2197175160 * ((0 : Nat) : Int)) = ((0 : Nat) : Int) from rfl, u32_xor_nat (r / 2) 0 (by omega) (by omega)]
  simp
 ·rw [h0, show IntKind.u32.wrap (2197175160 * ((1 : Nat) : Int)) = ((2197175160 : Nat) : Int) from rfl, u32_xor_nat (r / 2) 2197175160 (by omega) (by omega)]
  simp
theorem move_c (r : Nat) (hr : r < 2 ^ 32) (w : World) : Calls Tryz.prog 88 #[.int .u32 (r : Int)] w fun e w' => e = .returned (.int .u32 ((SM.stp r false : Nat) : Int)) /\ w = w' := by
 go_enter Tryz.func88, Tryz.ntmps88
 go_wp2
 go_ret
 exact ⟨ret_int (move_math r hr), rfl⟩
theorem stp_over (r : Nat) (b : Bool) : SM.stp (r ^^^ b.toNat) false = SM.stp r b := by
 have h := SM.stp_xor r b.toNat b b
 have h2 : SM.stp b.toNat b = 0 := by cases b <;> rfl
 rw [h2] at h
 simpa using h.symm
theorem over_math (r x k : Nat) (hr : r < 2 ^ 32) (hx : x < 2 ^ 64) : bits .xor .u32 (r : Int) (bits .and .u64 ((x : Int) / 2 ^ k) 1 % 4294967296) = ((r ^^^ (x.testBit k).toNat : Nat) : Int) := by
 rw [shr_cast, and_one64 _ (Nat.lt_of_le_of_lt (Nat.div_le_self _ _) hx)]
 have e : x / 2 ^ k % 2 = (x.testBit k).toNat := by
  rw [Nat.testBit_eq_decide_div_mod_eq]
  rcases Nat.mod_two_eq_zero_or_one (x / 2 ^ k) with h | h <;> simp [h]
 rw [e]
 have hb : (x.testBit k).toNat < 2 ^ 32 := by cases x.testBit k <;> decide
 have e2 : (((x.testBit k).toNat : Nat) : Int) % 4294967296 = (((x.testBit k).toNat : Nat) : Int) := by omega
 rw [e2]
 exact u32_xor_nat r _ hr hb
theorem Next_c (r x : Nat) (hr : r < 2 ^ 32) (hx : x < 2 ^ 64) (w : World) :
  Calls Tryz.prog 66 #[.int .u32 (r : Int), .int .u64 (x : Int)] w fun e w' => e = .returned (.int .u32 ((SM.nextN r x : Nat) : Int)) /\ w = w' := by
 go_enter Tryz.func66, Tryz.ntmps66
 go_wp2
 go_loop [0, 6] (fun q i => ∃ k : Nat, k <= 64 /\ i = .int .i64 k /\ q = .int .u32 ((SM.nx r x k : Nat) : Int)) (fun _ i => 64 - (intOf i).toNat)
 case atStart => exact ⟨0, by omega, rfl, rfl⟩
 case round =>
  obtain ⟨k, hk, rfl, rfl⟩ := hrel
  by_cases hlt : k < 64
  ·have HN := hidp (over_math (SM.nx r x k) x k (SM.nx_lt hr x k) hx)
   have hb : SM.nx r x k ^^^ (x.testBit k).toNat < 2 ^ 32 := Nat.xor_lt_two_pow (SM.nx_lt hr x k) (by cases x.testBit k <;> decide)
   have HS : Hid (SM.stp (SM.nx r x k ^^^ (x.testBit k).toNat) false = SM.nx r x (k + 1)) := hidp ((stp_over _ _).trans (SM.nx_succ r x k).symm)
   have hn := SM.nx_lt hr x k
   generalize SM.nx r x k ^^^ (x.testBit k).toNat = y at *
   go_wp2_with fail
   rw [HN.out]
   refine (move_c y hb _).mono ?_
   rintro e w' ⟨rfl, rfl⟩
   rw [HS.out]
   go_wp2
   go_round
   case rel => exact ⟨k + 1, by omega, by go_num, rfl⟩
   case measure => simp [intOf]; omega
  ·obtain rfl : k = 64 := by omega
   go_wp2
   go_ret
   exact ⟨rfl, rfl⟩
theorem Of_c (A : Option Addr) (c : Nat) (ws : List Nat) (h64 : ∀ x ∈ ws, x < 2 ^ 64) (hm : ws.length <= maxLen) (w : World) (B : Nat) (hr : Reads w B 1 A ws.length (wordVs ws)) :
  Calls Tryz.prog 41 #[.slice A ws.length c] w fun e w' => e = .returned (.int .u32 ((SM.ofN ws : Nat) : Int)) /\ w = w' := by
 unfold maxLen at hm
 have HR := hidp hr
 have HB : Hid (∀ k, SM.regs 4294967295 (ws.take k) < 2 ^ 32) := hidp (fun k => SM.regs_lt (by omega) _)
 have H64 : Hid (∀ k, ws.getD k 0 < 2 ^ 64) := hidp (fun k => getD_lt (by omega) h64 k)
 have HS : Hid (∀ k, k < ws.length -> SM.regs 4294967295 (ws.take (k + 1)) = SM.nextN (SM.regs 4294967295 (ws.take k)) (ws.getD k 0)) := hidp (fun k hk => SM.regs_take _ _ _ hk)
 have HV : Hid (∀ k, k < ws.length -> (wordVs ws)[k]? = some (.int .u64 ((ws.getD k 0 : Nat) : Int))) := hidp (fun k hk => wordVs_at ws k hk)
 have HE : Hid (SM.regs 4294967295 (ws.take ws.length) = SM.regs 4294967295 ws) := hidp (by rw [List.take_length])
 have H0 : Hid (SM.regs 4294967295 (ws.take 0) = 4294967295) := hidp rfl
 clear hr h64
 generalize hn : ws.length = n at *
 clear hn
 go_enter Tryz.func41, Tryz.ntmps41
 go_wp2_with (go_at_call 65; refine (First_c _).mono ?_; rintro e w' ⟨rfl, rfl⟩)
 go_loop [3, 9] (fun q i => ∃ k : Nat, k <= n /\ i = .int .i64 k /\ q = .int .u32 ((SM.regs 4294967295 (ws.take k) : Nat) : Int)) (fun _ i => n - (intOf i).toNat)
 case atStart => exact ⟨0, by omega, rfl, by rw [H0.out]; rfl⟩
 case round =>
  obtain ⟨k, hk, rfl, rfl⟩ := hrel
  have hq := HB.out k
  by_cases hlt : k < n
  ·obtain ⟨ad, u, rfl, _, hx, hc⟩ := HR.out.at_ hlt
   have HT := hidp (HS.out k hlt)
   have h64 := H64.out k
   have hu := HV.out k hlt
   rw [hx] at hu
   injection hu with hu
   subst hu
   have HX := hidp hx
   clear hx
   generalize ws.getD k 0 = x at *
   go_wp2_with fail
   refine (Next_c _ x hq h64 _).mono ?_
   rintro e w' ⟨rfl, rfl⟩
   rw [<- HT.out]
   go_wp2
   go_round
   case rel => exact ⟨k + 1, by omega, by go_num, rfl⟩
   case measure => simp [intOf]; omega
  ·obtain rfl : k = n := by omega
   go_wp2_with fail
   refine (Last_c _ hq _).mono ?_
   rintro e w' ⟨rfl, rfl⟩
   go_wp2
   go_ret
   exact ⟨ret_int (by rw [HE.out]; rfl), rfl⟩
theorem Of_n (A : Option Addr) (c n : Nat) (ws : List Nat) (hn : Hid (ws.length = n)) (h64 : Hid (∀ x ∈ ws, x < 2 ^ 64)) (hm : Hid (n <= maxLen)) (w : World) (B : Nat) (hr : Reads w B 1 A n (wordVs ws)) :
  Calls Tryz.prog 41 #[.slice A n c] w fun e w' => e = .returned (.int .u32 ((SM.ofN ws : Nat) : Int)) /\ w = w' := by
 obtain rfl := hn.out
 exact Of_c A c ws h64.out hm.out w B hr
end
end Go.Proofs.YtlpcdfcghgapkaaGreat

namespace Go.Proofs.YtlpcdfcghgapkaaGreat
open Go.ChangeShapes Go.WideShapes Go.ChangeAt Go.RowKit
set_option linter.unusedVariables false
set_option linter.unusedSimpArgs false
section
theorem wordInfo : (Tryz.prog.info? 46).map (fun i => (i.zero, i.size, i.bytes)) = some (some (.int .u64 0), 1, 8) := by kernel_rfl

set_option maxHeartbeats 1600000 in
theorem hdEncode_no (t p s : Int) (hr : rightB t p s = false) (w : World) :
  Calls Tryz.prog 17 #[.agg #[.int .i64 t, .int .i64 p, .int .i64 s]] w fun e w' => e = .returned (.slice none 0 0) /\ Below w.heap.size w w' := by
 have HR := hidp hr
 clear hr
 go_enter Tryz.func17, Tryz.ntmps17
 go_wp2_with fail
 refine (cfWord_c t p s _).mono ?_
 rintro e w1 ⟨rfl, hb1⟩
 rw [HR.out]
 go_wp2
 go_ret
 exact ⟨by first | rfl | trivial, Bgo (Bnew (B0 _) _) hb1⟩

set_option maxHeartbeats 1600000 in
theorem hdEncode_yes (t p s : Int) (hr : rightB t p s = true) (w : World) :
    Calls Tryz.prog 17 #[.agg #[.int .i64 t, .int .i64 p, .int .i64 s]] w fun e w' => ∃ u, e = .returned u /\ w'.ownsRow w.heap.size 46 1 u 8 (wordVs (headL t p s)) /\ Below w.heap.size w w' := by
  have HR := hidp hr
  obtain ⟨x, hx⟩ : ∃ x, wordN t p s = x := ⟨_, rfl⟩
  have hx64 := word_lt t p s
  rw [hx] at hx64
  have HX := hidp hx
  obtain ⟨b0, b1, _⟩ := words_bounds t p s
  obtain ⟨m, hm⟩ : ∃ m : Nat, lW t p s = m := ⟨(lW t p s).toNat, by omega⟩
  have HM := hidp hm
  have hm1 : m <= 8296 := by omega
  clear hr hx hm b0 b1
  have hc := Held.new w 23 #[.int .i64 t, .int .i64 p, .int .i64 s]
  go_enter Tryz.func17, Tryz.ntmps17
  go_wp2_with fail
  refine (cfWord_c t p s _).mono ?_
  rintro e w1 ⟨rfl, hb1⟩
  rw [HR.out, HX.out]
  have hc1 := hc.keep hb1
  obtain ⟨x0, x1, x2⟩ := hc1.three
  go_wp2_with fail
  refine (plWords_c t p s _).mono ?_
  rintro e w2 ⟨rfl, hb2⟩
  rw [HM.out]
  have hb12 := Bgo (Bgo (Bnew (B0 w) (.cells #[.int .i64 t, .int .i64 p, .int .i64 s] 23)) hb1) hb2
  have H7 := hidp (show head7 t p s = [0x4e41435245303031, 1, x, m, 0, 0, 0] by unfold head7; rw [HX.out, HM.out, Int.toNat_natCast])
  have hown := World.ownsRow_lit (base := w.heap.size) (e := 46) (size := 1) w2 #[.int .u64 0x4e41435245303031, .int .u64 1, .int .u64 x, .int .u64 m, .int .u64 0, .int .u64 0, .int .u64 0] 7 hb12.size (by unfold maxLen; omega) rfl
  have HO := hidp hown
  have HF : Hid (Reads (w2.alloc (.cells #[.int .u64 0x4e41435245303031, .int .u64 1, .int .u64 x, .int .u64 m, .int .u64 0, .int .u64 0, .int .u64 0] 46)) (w2.heap.size + 1) 1 (some ⟨w2.heap.size, 0, none⟩) 7 (wordVs [0x4e41435245303031, 1, x, m, 0, 0, 0])) :=
    hidp ((Reads.of_own hown).more (by simp))
  have HB := hidp hb12
  have H64 : ∀ y ∈ [0x4e41435245303031, 1, x, m, 0, 0, 0], y < 2 ^ 64 := by
    have := head7_lt t p s
    rw [H7.out] at this
    exact this
  obtain ⟨c, hcs⟩ : ∃ c, SM.ofN [0x4e41435245303031, 1, x, m, 0, 0, 0] = c := ⟨_, rfl⟩
  have hcl : c < 2 ^ 32 := by rw [<- hcs]; exact ofN_lt _
  have HC := hidp hcs
  obtain ⟨i0, hi, hz0, hz1, hz2⟩ := info_parts wordInfo
  clear hown hb12 hcs hb1 hb2
  go_wp2_with fail
  refine (Of_n _ _ 7 [0x4e41435245303031, 1, x, m, 0, 0, 0] (hidp rfl) (hidp H64) (hidp (by unfold maxLen; omega)) _ _ HF.out).mono ?_
  rintro e w3 ⟨rfl, rfl⟩
  rw [HC.out]
  go_wp2_with
    (at_builtin
     refine wpList_append_own _ rfl _ _ 27 rfl w.heap.size 46 i0 (.int .u64 0) 1 8 Tryz.underlying27 hi hz0 hz1 hz2 rfl (by decide) _ _ _ rfl (HO.out.alloc _) ⟨_, 0, none⟩ 1 1 [.int .u64 (c : Int)] rfl rfl ?c1 ?c2 ?c3 ?c4 ?c5 ?_
     case c1 => intro j y hy; rcases j with _ | j; (· simp at hy; subst hy; simp [Addr.add]); (· simp at hy)
     case c2 => simp [Value.oneCell']
     case c3 => unfold maxLen; simp
     case c4 => simp
     case c5 => have := HB.out.size; simp; omega
     intro u1 w4 hown1 hgrow _)
  go_ret
  have hE : wordVs (headL t p s) = [Value.int .u64 0x4e41435245303031, .int .u64 1, .int .u64 x, .int .u64 m, .int .u64 0, .int .u64 0, .int .u64 0] ++ [.int .u64 (c : Int)] := by
    unfold headL
    rw [H7.out, HC.out]
    rfl
  refine ⟨u1, rfl, by rw [hE]; exact hown1, ?_⟩
  have hb := ((HB.out.alloc HB.out.size (.cells #[.int .u64 0x4e41435245303031, .int .u64 1, .int .u64 x, .int .u64 m, .int .u64 0, .int .u64 0, .int .u64 0] 46)).alloc (by have := HB.out.size; simp; omega) (.cells #[.int .u64 (c : Int)] 46))
  exact hb.grown hgrow (by have := HB.out.size; simp; omega) (fun j hj => (HO.out.lt j hj).1)
end
end Go.Proofs.YtlpcdfcghgapkaaGreat

namespace Go.Proofs.YtlpcdfcghgapkaaGreat
open Go.ChangeShapes Go.WideShapes Go.ChangeAt Go.RowKit Go.Maps
set_option linter.unusedVariables false
set_option linter.unusedSimpArgs false
set_option maxRecDepth 100000
section
theorem u32_info25 : (Tryz.prog.info? 37).map (fun i => (i.zero, i.size, i.bytes)) = some (some (.int .u32 0), 1, 4) := by kernel_rfl
theorem make_u32 (n : Nat) (hn : n <= 1000000) (w : World) : (Instr.makeSlice 24 (.int .i64 (n : Int)) (.int .i64 (n : Int))).run Tryz.prog w = .ok (.slice (some ⟨w.heap.size, 0, none⟩) n n) (w.alloc (.cells (madeCells #[.int .u32 0] n) 37)) := by
 obtain ⟨i, hi⟩ : ∃ i, Tryz.prog.info? 37 = some i := Option.isSome_iff_exists.1 (by kernel_rfl)
 have h := u32_info25
 rw [hi] at h
 simp only [Option.map_some, Option.some.injEq, Prod.mk.injEq] at h
 obtain ⟨hz, hs, hb⟩ := h
 have := run_makeSlice (w := w) 24 37 i _ Tryz.underlying24 hi hz .i64 .i64 (n : Int) (n : Int) (by omega) (by omega) (by rw [hs]; omega) (by rw [hb]; omega) (by omega)
 rw [Int.toNat_natCast, hs, Nat.mul_one] at this
 exact this
theorem row_made {w : World} {t : TypeId} {z : Value} {n : Nat} (hn : n <= maxLen) : RowF (w.alloc (.cells (madeCells #[z] n) t)) w.heap.size t n n (fun _ => z) := by
 refine ⟨_, Held.new w t _, by unfold madeCells; simp, Nat.le_refl _, hn, fun i hi => ?_⟩
 unfold madeCells
 rw [Array.getElem?_map, Array.getElem?_range, if_pos hi]
 simp [Nat.mod_one]
end
section
def wrdF (f : Nat -> Nat) : Nat -> Value := fun i => .int .u64 ((f i : Nat) : Int)
theorem wrd_info : (Tryz.prog.info? 46).map (fun i => (i.zero, i.size, i.bytes)) = some (some (.int .u64 0), 1, 8) := by kernel_rfl
theorem make_u64 (n : Nat) (hn : n <= 1000000) (w : World) : (Instr.makeSlice 27 (.int .i64 (n : Int)) (.int .i64 (n : Int))).run Tryz.prog w = .ok (.slice (some ⟨w.heap.size, 0, none⟩) n n) (w.alloc (.cells (madeCells #[.int .u64 0] n) 46)) := by
 obtain ⟨i, hi⟩ : ∃ i, Tryz.prog.info? 46 = some i := Option.isSome_iff_exists.1 (by kernel_rfl)
 have h := wrd_info
 rw [hi] at h
 simp only [Option.map_some, Option.some.injEq, Prod.mk.injEq] at h
 obtain ⟨hz, hs, hb⟩ := h
 have := run_makeSlice (w := w) 27 46 i _ Tryz.underlying27 hi hz .i64 .i64 (n : Int) (n : Int) (by omega) (by omega) (by rw [hs]; omega) (by rw [hb]; omega) (by omega)
 rw [Int.toNat_natCast, hs, Nat.mul_one] at this
 exact this
theorem addr_add (g k : Nat) : (⟨g, 0, none⟩ : Addr).add k = ⟨g, k, none⟩ := by
 unfold Addr.add
 by_cases h : k = 0
 ·rw [if_pos h, h]
 ·rw [if_neg h]; simp
section
variable {w w' : World} {A : Option Addr} {m c g : Nat} {f f' : Nat -> Nat}
end
end
section
theorem own_lower {w : World} {base base' : Nat} {e : TypeId} {size n : Nat} {v : Value} {xs : List Value} (h : w.ownsRow base e size v n xs) (hb : base' <= base) : w.ownsRow base' e size v n xs := by
 refine ⟨h.1, ?_⟩
 rcases h.2 with h2 | ⟨g, cap, cur, rfl, hbg, hg, hr⟩
 ·exact .inl h2
 ·exact .inr ⟨g, cap, cur, rfl, Nat.le_trans hb hbg, hg, hr⟩

section
variable {O : Ob} {w0 ws w w' : World} {A G : Nat -> Prop} {N : Nat} {T : TypeId} {cs : Array Value} {base : Nat} {u : Value} {nl : Nat} {xs : List Value} {st s' : Vst}
end
end
section
def fwT (t p s j i : Nat) : Nat := if i < 8 then (headL t p s).getD i 0 else if i = 8 then 4294967296 else if 16 <= i /\ i < 16 + j then frV t p (i - 16) else 0
def fwI (t p s : Nat) : Nat -> Nat := fwT t p s (30 + 4 * t + 6 * p)
def fwN (t p : Nat) : Nat := (16 + (30 + 4 * t + 6 * p) + 7) / 8 * 8 + (t + 1) * 120
theorem fwN_eq {t p s : Nat} (hr : rightB t p s = true) : lW (t : Int) (p : Int) (s : Int) = (fwN t p : Int) := by
 unfold lW lM lK fwN
 rw [hr]
 simp
end
section
def frK (n : Nat) : Nat -> Option Nat := fun i => (List.replicate n 0)[i]?
def frS (n t p s : Nat) : Vst := putS n (addS n (frK n) (t : Int) (p : Int) (s : Int) ((0 : Nat) : Int) (p : Int) freshS) ((0 : Nat) : Int) p
theorem frK_at {n i : Nat} (h : i < n) : frK n i = some 0 := by unfold frK; rw [List.getElem?_replicate, if_pos h]
theorem frK_fresh (n : Nat) : VW n (frK n) freshS := ⟨fun i hi => ⟨0, frK_at hi⟩, rfl⟩
theorem frK_zero {n i : Nat} (h : i < n) : getV n (frK n) freshS (i : Int) = 0 := by
 rw [(frK_fresh n).at_ h, frK_at h]
 rfl
theorem fr_view {t p s n : Nat} (hr : rightB t p s = true) (hn : n = 30 + 4 * t + 6 * p) : VW n (frK n) (frS n t p s) /\ ∀ i, i < n -> nowV (frK n) (frS n t p s).wr i = frV t p i := by
 have hri := (rightB_iff t p s).1 hr
 have hp1 : 1 <= p := by omega
 have hp2 : p <= 1024 := by omega
 have hfr := frB_at (p := p) hp1 hp2
 obtain ⟨k, hk, hk10, _⟩ := ofI_nat (n := p) hp1 hp2
 have hok : 2 + (k : Int) = (frB p : Int) := by
  have : ofI (p : Int) = HM.logI (p : Int) := by unfold ofI; rw [if_neg (by omega)]
  omega
 have hbh : binH (p : Int) = ((frB p : Nat) : Int) := by rw [binH_nat hk hk10]; omega
 have hpi : ∀ b : Nat, b < 6 -> pageI (t : Int) (p : Int) (s : Int) ((0 : Nat) : Int) (b : Int) = ((30 + 4 * t + b : Nat) : Int) := fun b hb => by rw [pcell_yes hr (by omega) (by omega) (by omega) (by omega)]; omega
 have hpf : pageI (t : Int) (p : Int) (s : Int) (((0 : Nat) : Int) + (p : Int) - 1) 1 = ((30 + 4 * t + 6 * (p - 1) + 1 : Nat) : Int) := by rw [pcell_yes hr (by omega) (by omega) (by omega) (by omega)]; omega
 have hp0 := hpi 0 (by omega)
 have hpn := hpi 2 (by omega)
 have hpv := hpi 3 (by omega)
 have hiv : infoV 1 (p : Int) 0 = 1 + 16 * p := by rw [infoV_yes (infoB_yes (by unfold infoP; omega))]; simp
 have hpg : pgB (p : Int) ((0 : Nat) : Int) = true := (pgB_iff _ _).2 (by omega)
 obtain ⟨fb, hfb⟩ : ∃ x, frB p = x := ⟨_, rfl⟩
 rw [hfb] at hfr hbh
 obtain ⟨v1, e1⟩ := (frK_fresh n).put (i := 30 + 4 * t + 0) (by omega) (1 + 16 * p)
 obtain ⟨v2, e2⟩ := v1.put (i := 30 + 4 * t + 6 * (p - 1) + 1) (by omega) 1
 obtain ⟨s2, hs2⟩ : ∃ x, putS n (putS n freshS ((30 + 4 * t + 0 : Nat) : Int) (1 + 16 * p)) ((30 + 4 * t + 6 * (p - 1) + 1 : Nat) : Int) 1 = x := ⟨_, rfl⟩
 rw [hs2] at v2 e2
 obtain ⟨v3, e3⟩ := v2.get ((fb : Nat) : Int)
 have h0 : getV n (frK n) s2 ((fb : Nat) : Int) = 0 := by
  rw [e2, e1]
  unfold upd
  rw [if_neg (by omega), if_neg (by omega)]
  exact frK_zero (by omega)
 obtain ⟨v4, e4⟩ := v3.put (i := 30 + 4 * t + 2) (by omega) 0
 obtain ⟨v5, e5⟩ := v4.put (i := 30 + 4 * t + 3) (by omega) 0
 obtain ⟨v6, e6⟩ := v5.put (i := fb) (by omega) (0 + 1)
 obtain ⟨v7, e7⟩ := v6.put (i := 0) (by omega) p
 have hS : frS n t p s = putS n (putS n (putS n (putS n (getS n (frK n) s2 ((fb : Nat) : Int)) ((30 + 4 * t + 2 : Nat) : Int) 0) ((30 + 4 * t + 3 : Nat) : Int) 0) ((fb : Nat) : Int) (0 + 1)) ((0 : Nat) : Int) p := by
  unfold frS
  rw [addS_yes (k := 0) ⟨hpg, by omega, by omega⟩, hbh, (pgB_nat (k := 0) hpg).1]
  unfold pushS push2 push1
  rw [show pageI (t : Int) (p : Int) (s : Int) ((0 : Nat) : Int) 0 = ((30 + 4 * t + 0 : Nat) : Int) from hp0, hpf, hiv, show (0 + 1 : Nat) = 1 from rfl, hs2, h0, if_pos rfl, show pageI (t : Int) (p : Int) (s : Int) ((0 : Nat) : Int) 2 = ((30 + 4 * t + 2 : Nat) : Int) from hpn, show pageI (t : Int) (p : Int) (s : Int) ((0 : Nat) : Int) 3 = ((30 + 4 * t + 3 : Nat) : Int) from hpv]
 rw [hS]
 refine ⟨v7, fun i hi => ?_⟩
 refine (v7.at_ hi).symm.trans ?_
 rw [e7, e6, e5, e4, e3, e2, e1]
 unfold upd frV
 rw [hfb]
 by_cases c0 : i = 0
 ·rw [if_pos (by omega), if_pos c0]
 ·rw [if_neg (by omega), if_neg c0]
  by_cases c1 : i = fb
  ·rw [if_pos (by omega), if_pos c1]
  ·rw [if_neg (by omega), if_neg c1]
   by_cases c2 : i = 30 + 4 * t
   ·rw [if_neg (by omega), if_neg (by omega), if_neg (by omega), if_pos (by omega), if_pos c2]
   ·rw [if_neg c2]
    by_cases c3 : i = 30 + 4 * t + 6 * (p - 1) + 1
    ·rw [if_neg (by omega), if_neg (by omega), if_pos (by omega), if_pos c3]
    ·rw [if_neg c3]
     by_cases c4 : i = 30 + 4 * t + 3
     ·rw [if_pos (by omega)]
     ·rw [if_neg (by omega)]
      by_cases c5 : i = 30 + 4 * t + 2
      ·rw [if_pos (by omega)]
      ·rw [if_neg (by omega), if_neg (by omega), if_neg (by omega)]
       exact frK_zero hi
end
section
section
variable {base b n : Nat} {wh all : Bool} {K : Nat -> Option Nat} {st : Vst} {w w0 : World} {A G : Nat -> Prop} {t q s : Int}

set_option maxHeartbeats 3200000 in
theorem bnAdd_yes (hn : n < 2 ^ 40) (k m : Nat) (hq : q <= 2147483648) (hk : pgB q (k : Int) = true) (h1 : 1 <= (m : Int)) (h2 : (m : Int) <= q - (k : Int)) (h : (vOb base b n wh K).At w0 A G st w) :
  Calls Tryz.prog 14 #[.pointer (some ⟨b, 0, none⟩), .agg #[.int .i64 t, .int .i64 q, .int .i64 s], .int .i64 (k : Int), .int .i64 (m : Int)] w fun e w' => e = .returned (.tuple #[]) /\ (vOb base b n wh K).At w0 A G (addS n K t q s (k : Int) (m : Int) st) w' /\ Stay G w w' := by
 have W0 := hidp ((WL.start h).new 23 #[.int .i64 t, .int .i64 q, .int .i64 s])
 obtain ⟨x0, x1, x2⟩ := W0.out.h0.three
 have t0 : decide ((m : Int) < (1 : Int)) = false := decide_eq_false (by omega)
 have t1 : decide (q - (k : Int) < (m : Int)) = false := decide_eq_false (by omega)
 have hm31 : m <= 2147483648 := by omega
 have sk : IntKind.u32.wrap ((k : Int) + 1) = ((k + 1 : Nat) : Int) := by have := wrap_nat32 (k + 1) (by omega); simpa using this
 have HIV := hidp (infoV_lt 1 (m : Int) 0)
 have HE : Hid (addS n K t q s (k : Int) (m : Int) st = pushI n K t q s (nthI 2 11 1 (ofI (m : Int))) (k : Int) (putS n (putS n st (pageI t q s (k : Int) 0) (infoV 1 (m : Int) 0)) (pageI t q s ((k : Int) + (m : Int) - 1) 1) (k + 1))) := hidp (addS_yes ⟨hk, h1, h2⟩)
 have hk2 := (pgB_iff _ _).1 hk
 have hk31 : k < 2147483648 := by omega
 have sq : IntKind.i64.wrap (q - (k : Int)) = q - (k : Int) := i64_same (by omega) (by omega)
 have HK := hidp hk
 clear hk
 clear h
 go_enter Tryz.func14, Tryz.ntmps14
 go_wp2_with fail
 refine (bnIsPage_c t q s (k : Int) _).mono ?_; rintro e w1 ⟨rfl, hb⟩; have W1 := hidp (W0.out.keep hb); clear hb W0; rw [HK.out]
 obtain ⟨x0, x1, x2⟩ := W1.out.h0.three
 go_wp2_with fail
 refine (inPut_c 1 (m : Int) 0 _).mono ?_; rintro e w2 ⟨rfl, hb⟩; have W2 := hidp (W1.out.keep hb); clear hb W1
 obtain ⟨x0, x1, x2⟩ := W2.out.h0.three
 go_wp2_with fail
 refine (plInfo_c t q s (k : Int) _).mono ?_; rintro e w3 ⟨rfl, hb⟩; have W3 := hidp (W2.out.keep hb); clear hb W2
 obtain ⟨x0, x1, x2⟩ := W3.out.h0.three
 go_wp2_with fail
 refine (vPutA hn _ _ HIV.out W3.out.at_).mono ?_; rintro e w4 ⟨rfl, h1, h2⟩; have W4 := hidp (W3.out.call h1 h2); clear h1 h2 W3
 obtain ⟨x0, x1, x2⟩ := W4.out.h0.three
 go_wp2_with fail
 refine (plFoot_c t q s ((k : Int) + (m : Int) - 1) _).mono ?_; rintro e w5 ⟨rfl, hb⟩; have W5 := hidp (W4.out.keep hb); clear hb W4
 obtain ⟨x0, x1, x2⟩ := W5.out.h0.three
 go_wp2_with fail
 refine (vPutA hn _ (k + 1) (by omega) W5.out.at_).mono ?_; rintro e w6 ⟨rfl, h1, h2⟩; have W6 := hidp (W5.out.call h1 h2); clear h1 h2 W5
 obtain ⟨x0, x1, x2⟩ := W6.out.h0.three
 go_wp2_with fail
 refine wp_region_held_drew (S := (fun w' => w'.cell? ⟨w.heap.size, 0, none⟩ = some (.int .i64 t) /\ w'.cell? ⟨w.heap.size, 1, none⟩ = some (.int .i64 q) /\ w'.cell? ⟨w.heap.size, 2, none⟩ = some (.int .i64 s))) (by kernel_rfl) ?_ (fun hHeld => ?_)
 ·(try dsimp only)
  first | exact W6.out.drew.h0.three | exact W6.out.h0.three | exact W7.out.h0.three | exact hHeld
 refine tkz 0 ?_
 refine tkz 1 ?_
 refine tkz 2 ?_
 refine tkz 5 ?_
 refine rdz 3 fun K hK => ?_
 go_simp
 refine (bnOf_c (m : Int) (by omega) (by omega) _).mono ?_; rintro e w9 ⟨rfl, rfl⟩
 refine hK.out _ _ ?_ (fun hHeld => ?_)
 ·(try dsimp only)
  first | exact W6.out.drew.h0.three | exact W6.out.h0.three | exact W7.out.h0.three | exact hHeld
 clear hK K
 (try simp only [Act.put, gA, gB, gC, sA, sB, sC])
 refine rdz 4 fun K hK => ?_
 go_simp
 refine (plBin_c (ofI (m : Int)) _).mono ?_; rintro e w9 ⟨rfl, rfl⟩
 refine hK.out _ _ ?_ (fun hHeld => ?_)
 ·(try dsimp only)
  first | exact W6.out.drew.h0.three | exact W6.out.h0.three | exact W7.out.h0.three | exact hHeld
 clear hK K
 (try simp only [Act.put, gA, gB, gC, sA, sB, sC])
 refine rdz 6 fun K hK => ?_
 go_simp
 refine (lkPush_c hn (by omega) (k : Int) W6.out.drew.at_).mono ?_; rintro e w7 ⟨rfl, h1, h2⟩; have W7 := hidp (W6.out.drew.call h1 h2); clear h1 h2 W6
 refine hK.out _ _ ?_ (fun hHeld => ?_)
 ·(try dsimp only)
  first | exact W6.out.drew.h0.three | exact W6.out.h0.three | exact W7.out.h0.three | exact hHeld
 clear hK K
 (try simp only [Act.put, gA, gB, gC, sA, sB, sC])
 refine dnz ?_
 obtain ⟨x0, x1, x2⟩ := W7.out.h0.three
 go_wp2
 go_end0
 exact ⟨rfl, by rw [HE.out]; exact W7.out.fin⟩

end
end
end Go.Proofs.YtlpcdfcghgapkaaGreat

namespace Go.Proofs.YtlpcdfcghgapkaaGreat
open Go.ChangeShapes Go.WideShapes Go.ChangeAt Go.RowKit
set_option linter.unusedVariables false
section
def tipB (m : Int) : Bool := decide (0 <= m /\ m <= 16)
def tipN (s : Nat) (m : Int) : Nat := if tipB m then s * 4294967296 + m.toNat else 0
theorem tip_yes (s m : Nat) (h : m <= 16) : tipB m = true /\ tipN s m = s * 4294967296 + m := by
 have : tipB m = true := by unfold tipB; simp; omega
 exact ⟨this, by unfold tipN; rw [this, if_pos rfl, Int.toNat_natCast]⟩
theorem tip_no (s : Nat) (m : Int) (h : m < 0 \/ 16 < m) : tipB m = false /\ tipN s m = 0 := by
 have : tipB m = false := by unfold tipB; simp; omega
 exact ⟨this, by unfold tipN; rw [this]; rfl⟩
theorem mkTip_c (s : Nat) (m : Int) (hs : s < 2 ^ 32) (h0 : -9223372036854775808 <= m) (h1 : m <= 9223372036854775807) (w : World) :
  Calls Tryz.prog 19 #[.int .u32 (s : Int), .int .i64 m] w fun e w' => e = .returned (.tuple #[.int .u64 ((tipN s m : Nat) : Int), .bool (tipB m)]) /\ w = w' := by
 by_cases hm : m < 0
 ·have T := hidp (tip_no s m (by omega))
  go_enter Tryz.func19, Tryz.ntmps19
  go_wp2
  go_ret2
  exact ⟨by rw [T.out.1, T.out.2]; rfl, rfl⟩
 ·by_cases hm2 : 16 < m
  ·have T := hidp (tip_no s m (by omega))
   go_enter Tryz.func19, Tryz.ntmps19
   go_wp2
   go_ret2
   exact ⟨by rw [T.out.1, T.out.2]; rfl, rfl⟩
  ·obtain ⟨k, rfl⟩ : ∃ k : Nat, m = k := ⟨m.toNat, by omega⟩
   have T := hidp (tip_yes s k (by omega))
   have hk : k < 2 ^ 32 := by omega
   go_enter Tryz.func19, Tryz.ntmps19
   go_wp2_with (go_at_call 43; refine (Join_c s k hs hk _).mono ?_; rintro e w' ⟨rfl, rfl⟩)
   go_ret2
   exact ⟨by rw [T.out.1, T.out.2]; rfl, rfl⟩

theorem mkCell_c (h l : Nat) (hh : h < 2 ^ 32) (hl : l < 2 ^ 32) (w : World) :
  Calls Tryz.prog 20 #[.int .u32 (h : Int), .int .u32 (l : Int)] w fun e w' => e = .returned (.int .u64 ((h * 4294967296 + l : Nat) : Int)) /\ w = w' := by
 go_enter Tryz.func20, Tryz.ntmps20
 go_wp2_with (go_at_call 43; refine (Join_c h l hh hl _).mono ?_; rintro e w' ⟨rfl, rfl⟩)
 go_ret
 exact ⟨rfl, rfl⟩
end
end Go.Proofs.YtlpcdfcghgapkaaGreat

namespace Go.Proofs.YtlpcdfcghgapkaaGreat
open Go.ChangeShapes Go.WideShapes Go.ChangeAt Go.RowKit Go.Maps
set_option linter.unusedVariables false
set_option linter.unusedSimpArgs false
set_option maxRecDepth 100000
section
theorem at_held25 {O : Ob} {w0 w : World} {A G : Nat -> Prop} {s : Vst} (h : O.At w0 A G s w) {g : Nat} {t : TypeId} {cs : Array Value} (hh : Held w0 g t cs) (hA : ¬ A g) : Held w g t cs := by
 obtain ⟨_, _, _, h3, _⟩ := h
 exact h3.held hh hA
theorem at_below25 {O : Ob} {W w0 w : World} {A G : Nat -> Prop} {s : Vst} (h : O.At w0 A G s w) (hb : Below W.heap.size W w0) (hA : ∀ i, A i -> W.heap.size <= i) : Below W.heap.size W w := by
 obtain ⟨_, _, _, h3, _⟩ := h
 exact h3.below hb hA

set_option maxHeartbeats 1600000 in
theorem frVals_no (t p s : Int) (hr : rightB t p s = false) (w : World) :
  Calls Tryz.prog 4 #[.agg #[.int .i64 t, .int .i64 p, .int .i64 s]] w fun e w' => ∃ u, e = .returned u /\ RowV w' u [] /\ Below w.heap.size w w' := by
 have HC := hidp (Held.new w 23 #[.int .i64 t, .int .i64 p, .int .i64 s])
 have HB := hidp (Bnew (B0 w) (.cells #[.int .i64 t, .int .i64 p, .int .i64 s] 23))
 have E0 : Hid (lC t p s = 0) := hidp (by unfold lC; rw [hr]; rfl)
 obtain ⟨x0, x1, x2⟩ := HC.out.three
 go_enter Tryz.func4, Tryz.ntmps4
 go_wp2_with fail
 refine (plCells_c t p s _).mono ?_; rintro e w1 ⟨rfl, hb⟩; rw [E0.out]
 replace HB := hidp (Bgo HB.out hb)
 clear hb
 go_wp2
 go_ret
 exact ⟨_, rfl, ⟨Nat.zero_le _, .inl ⟨rfl, rfl⟩⟩, HB.out⟩

set_option maxHeartbeats 3200000 in
theorem frVals_yes (t p s n : Nat) (hr : rightB t p s = true) (hn : n = 30 + 4 * t + 6 * p) (w : World) :
  Calls Tryz.prog 4 #[.agg #[.int .i64 (t : Int), .int .i64 (p : Int), .int .i64 (s : Int)]] w fun e w' => ∃ g c, e = .returned (.slice (some ⟨g, 0, none⟩) n c) /\ RowF w' g 37 n c (valF (frV t p)) /\ w.heap.size <= g /\ Below w.heap.size w w' := by
 have hri := (rightB_iff t p s).1 hr
 have HC := hidp (Held.new w 23 #[.int .i64 (t : Int), .int .i64 (p : Int), .int .i64 (s : Int)])
 have HB := hidp (Bnew (B0 w) (.cells #[.int .i64 (t : Int), .int .i64 (p : Int), .int .i64 (s : Int)] 23))
 have E0 : Hid (lC t p s = (n : Int)) := hidp (by unfold lC; rw [hr, hn]; simp)
 have hn2 : n <= 1000000 := by omega
 have hmk := make_u32 n hn2
 have q0 : ((n : Int) == 0) = false := by simp; omega
 have HFV := hidp (fr_view hr hn)
 have hnu : n <= 6238 := by omega
 have h0n : 30 <= n := by omega
 have hp1 : 1 <= (p : Int) := by omega
 have hp2 : (p : Int) <= 1024 := by omega
 have hpg : pgB (p : Int) ((0 : Nat) : Int) = true := (pgB_iff _ _).2 (by omega)
 have cp : IntKind.u32.wrap (p : Int) = (p : Int) := wrap_nat32 p (by omega)
 clear hn hn2 hri hr
 obtain ⟨x0, x1, x2⟩ := HC.out.three
 go_enter Tryz.func4, Tryz.ntmps4
 go_wp2_with fail
 refine (plCells_c t p s _).mono ?_; rintro e w1 ⟨rfl, hb⟩; rw [E0.out]
 replace HC := hidp (HC.out.keep hb)
 replace HB := hidp (Bgo HB.out hb)
 clear hb x0 x1 x2
 have HM := hidp (row_made (w := w1) (t := 37) (z := .int .u32 0) (n := n) (by unfold maxLen; omega))
 replace HC := hidp (HC.out.alloc (.cells (madeCells #[.int .u32 0] n) 37))
 replace HB := hidp (Bnew HB.out (.cells (madeCells #[.int .u32 0] n) 37))
 obtain ⟨x0, x1, x2⟩ := HC.out.three
 go_wp2_with fail
 clear hmk
 generalize hg : w1.heap.size = g at *
 generalize hw2 : w1.alloc (.cells (madeCells #[.int .u32 0] n) 37) = w2 at *
 clear hg hw2
 have HL : Hid (w.heap.size < w2.heap.size) := hidp HC.out.lt
 refine (Whole_c (some ⟨g, 0, none⟩) n (List.replicate n 0) n (by simp) (by omega) (fun x hx => by rw [(List.mem_replicate.1 hx).2]; decide) _ (fun _ => ⟨_, rfl, fun j u hu => ?_⟩)).mono ?_
 ·have hj : j < n := by
   rcases Nat.lt_or_ge j n with h1 | h1
   ·exact h1
   ·unfold valVs at hu; rw [List.getElem?_eq_none (by simpa using h1)] at hu; cases hu
  unfold valVs at hu
  rw [List.getElem?_map, List.getElem?_replicate, if_pos hj] at hu
  injection hu with hu
  rw [addr_add, HM.out.cell hj, <- hu]
  rfl
 rintro e w3 ⟨b, o, rfl, hI, hb⟩
 have HA : Hid (∀ i, o.A b i -> w.heap.size < i) := hidp (fun i hi => Nat.lt_of_lt_of_le HL.out (hI.ge i hi))
 replace HC := hidp (HC.out.keep hb)
 replace HB := hidp (Bgo HB.out hb)
 have HT := hidp (Ob.At.start (O := vOb w2.heap.size b n true (frK n)) ⟨o, hI, rfl⟩)
 have HC3 := HC
 clear hb hI HM x0 x1 x2
 obtain ⟨x0, x1, x2⟩ := HC.out.three
 go_wp2_with fail
 refine (bnAdd_yes (K := frK n) (by omega) 0 p (by omega) hpg hp1 (by omega) HT.out).mono ?_
 rintro e w4 ⟨rfl, h1, _⟩
 replace HT := hidp h1
 replace HC := hidp (at_held25 h1 HC3.out (fun hx => by have := HA.out _ hx; omega))
 clear h1 x0 x1 x2
 obtain ⟨x0, x1, x2⟩ := HC.out.three
 go_wp2_with fail
 refine (vPutA (K := frK n) (by omega) 0 p (by omega) HT.out).mono ?_
 rintro e w5 ⟨rfl, h1, _⟩
 have HB5 := hidp (at_below25 h1 HB.out (fun i hi => Nat.le_of_lt (HA.out i hi)))
 obtain ⟨A5, ⟨o5, hI, rfl⟩, _, _, _⟩ := h1
 have HI := hidp hI
 clear hI x0 x1 x2 HC HT HC3
 go_wp2_with fail
 refine (vVals_some (by omega) (by have := HI.out.ok.few; omega) _ HI.out).mono ?_
 rintro e w6 ⟨g6, c6, rfl, hg6, hrow, hb⟩
 have HR := hidp hrow
 have HG6 := hidp hg6
 have HBB := hidp hb
 clear hrow hb hg6
 go_wp2
 go_ret
 exact ⟨g6, c6, rfl, HR.out.congr (fun i hi => by unfold valF; rw [<- HFV.out.2 i hi]; rfl), by have := HG6.out; have := HB5.out.size; omega, Bgo HB5.out HBB.out⟩

theorem wpList_copy_head {w : World} {ops : Array Oper} {rest : List Oper} {o : Oper} {a : Act} {Q : Exit -> Act -> World -> Prop} (hgd : o.guard = none) (d s : Operand)
  (ho : o.op = .call { callee := .builtin .copy, args := #[d, s], argTypes := #[27, 27] }) (g m c cc k c8 : Nat) (ad : Addr) (f : Nat -> Value) (xs : List Value)
  (hd : a.eval d = .slice (some ⟨g, 0, none⟩) m cc) (hs : a.eval s = .slice (some ad) k c8) (hk : xs.length = k) (hkm : k <= m) (hr : RowF w g 46 m c f)
  (hsrc : ∀ j v, xs[j]? = some v -> w.cell? (ad.add j) = some v) (h1 : ∀ v ∈ xs, v.oneCell' = true)
  (h : ∀ w', Hid (RowF w' g 46 m c (fun i => (xs[i]?).getD (f i))) -> Hid (Turns (fun i => i = g) w w') -> wpList Tryz.prog ops Q rest (a.put o.dst (goInt xs.length)) w') :
  wpList Tryz.prog ops Q (o :: rest) a w := by
 obtain ⟨cs, hh, hsz, hmc, hcm, hcl⟩ := hr
 have hl : cs.toList.length = c := by simpa using hsz
 refine wpList_copy_at hgd d s 27 27 ho 46 Tryz.underlying27 (by kernel_rfl) g 0 m cc ad k c8 hd hs cs _ hh xs (by rw [hk]; exact (Nat.min_eq_left hkm).symm) hsrc (by omega) h1 (fun w' hw ht => h w' (hidp ⟨_, hw, ?_, hmc, hcm, fun i hi => ?_⟩) (hidp ht))
 ·simp; omega
 ·rw [List.getElem?_toArray, List.take_zero, List.nil_append, Nat.zero_add]
  rcases Nat.lt_or_ge i k with h2 | h2
  ·show _ = some ((xs[i]?).getD (f i))
   rw [List.getElem?_append_left (by omega), List.getElem?_eq_getElem (l := xs) (by omega)]
   rfl
  ·show _ = some ((xs[i]?).getD (f i))
   have e0 : xs[i]? = none := List.getElem?_eq_none (by omega)
   rw [List.getElem?_append_right (by omega), List.getElem?_drop, show xs.length + (i - xs.length) = i by omega, e0]
   have := hcl i hi
   simpa using this

set_option maxHeartbeats 1600000 in
theorem frWords_no (t p s : Int) (hr : rightB t p s = false) (w : World) :
  Calls Tryz.prog 6 #[.agg #[.int .i64 t, .int .i64 p, .int .i64 s]] w fun e w' => ∃ u, e = .returned u /\ RowV w' u [] /\ Below w.heap.size w w' := by
 have HC := hidp (Held.new w 23 #[.int .i64 t, .int .i64 p, .int .i64 s])
 have HB := hidp (Bnew (B0 w) (.cells #[.int .i64 t, .int .i64 p, .int .i64 s] 23))
 have HEN := hidp (fun w => hdEncode_no t p s hr w)
 obtain ⟨x0, x1, x2⟩ := HC.out.three
 go_enter Tryz.func6, Tryz.ntmps6
 go_wp2_with fail
 refine (HEN.out _).mono ?_; rintro e w1 ⟨rfl, hb⟩
 replace HB := hidp (Bgo HB.out hb)
 clear hb
 go_wp2
 go_ret
 exact ⟨_, rfl, ⟨Nat.zero_le _, .inl ⟨rfl, rfl⟩⟩, HB.out⟩

set_option maxHeartbeats 6400000 in
theorem frWords_yes (t p s m : Nat) (hr : rightB t p s = true) (hm : m = fwN t p) (w : World) :
    Calls Tryz.prog 6 #[.agg #[.int .i64 (t : Int), .int .i64 (p : Int), .int .i64 (s : Int)]] w fun e w' => ∃ g c, e = .returned (.slice (some ⟨g, 0, none⟩) m c) /\ RowF w' g 46 m c (wrdF (fwI t p s)) /\ w.heap.size <= g /\ Below w.heap.size w w' := by
  have hri := (rightB_iff t p s).1 hr
  have HC := hidp (Held.new w 23 #[.int .i64 (t : Int), .int .i64 (p : Int), .int .i64 (s : Int)])
  have HB := hidp (Bnew (B0 w) (.cells #[.int .i64 (t : Int), .int .i64 (p : Int), .int .i64 (s : Int)] 23))
  have E0 : Hid (lW t p s = (m : Int)) := hidp (by rw [fwN_eq hr, hm])
  obtain ⟨n, hn⟩ : ∃ n, n = 30 + 4 * t + 6 * p := ⟨_, rfl⟩
  have hmn : 16 + n <= m := by rw [hm, hn]; unfold fwN; omega
  have hmu : m <= 100000 := by rw [hm]; unfold fwN; omega
  have hmk := make_u64 m (by omega)
  have HN := hidp hn
  have HVA := hidp (fun w => frVals_yes t p s n hr hn w)
  have HEN := hidp (fun w => hdEncode_yes t p s hr w)
  have HHL : Hid ((headL (t : Int) (p : Int) (s : Int)).length = 8) := hidp (headL_len _ _ _)
  have HWL : Hid ((wordVs (headL (t : Int) (p : Int) (s : Int))).length = 8) := hidp (by unfold wordVs; simp [headL_len])
  have HM8 : Hid (8 <= m) := hidp (by omega)
  have HLC : Hid (lC t p s = (n : Int)) := hidp (by unfold lC; rw [hr, hn]; simp)
  have hn0 : 30 <= n := by omega
  have hnu : n <= 6238 := by omega
  clear hm hn
  obtain ⟨x0, x1, x2⟩ := HC.out.three
  go_enter Tryz.func6, Tryz.ntmps6
  go_wp2_with fail
  refine (HEN.out _).mono ?_
  rintro e w1 ⟨u, rfl, ho, hb⟩
  obtain ⟨g8, c8, rfl, hg1, hg2⟩ := ho.form (by omega)
  have HRD := hidp (Reads.of_own ho)
  have HB1 := hidp (B0 w1)
  replace HC := hidp (HC.out.keep hb)
  replace HB := hidp (Bgo HB.out hb)
  clear ho hb hg1 hg2 x0 x1 x2
  obtain ⟨x0, x1, x2⟩ := HC.out.three
  go_wp2_with fail
  refine (plWords_c t p s _).mono ?_; rintro e w2 ⟨rfl, hb⟩; rw [E0.out]
  replace HC := hidp (HC.out.keep hb)
  replace HB := hidp (Bgo HB.out hb)
  replace HB1 := hidp (Bgo HB1.out hb)
  clear hb x0 x1 x2
  have HRW := hidp (row_made (w := w2) (t := 46) (z := .int .u64 0) (n := m) (by unfold maxLen; omega))
  have HG : Hid (w.heap.size < w2.heap.size) := hidp HC.out.lt
  replace HC := hidp (HC.out.alloc (.cells (madeCells #[.int .u64 0] m) 46))
  replace HB := hidp (Bnew HB.out (.cells (madeCells #[.int .u64 0] m) 46))
  replace HB1 := hidp (Bnew HB1.out (.cells (madeCells #[.int .u64 0] m) 46))
  obtain ⟨x0, x1, x2⟩ := HC.out.three
  go_wp2_with (first
    | (refine wpList_copy_head rfl (.tmp 15) (.tmp 16) rfl w2.heap.size m m m 8 c8 ⟨g8, 0, none⟩ _ (wordVs (headL (t : Int) (p : Int) (s : Int))) rfl rfl HWL.out HM8.out HRW.out ?_ ?_ ?_
       · intro j v hv
         obtain ⟨ad, e1, _, e2⟩ := (HRD.out.below HB1.out).2 (by omega)
         injection e1 with e1
         subst e1
         exact e2 j v hv
       · intro v hv
         unfold wordVs at hv
         obtain ⟨x, _, rfl⟩ := List.mem_map.1 hv
         rfl
       intro w4 HRW4 HT4
       generalize hg : w2.heap.size = g at *
       generalize hw2 : w2.alloc (.cells (madeCells #[.int .u64 0] m) 46) = w3 at *
       clear hg hw2 hmk x0 x1 x2
       replace HB := hidp (HT4.out.below HB.out (fun i hi => by have := HG.out; show w.heap.size <= i; omega))
       replace HC := hidp (HT4.out.held HC.out (fun hx => by have := HG.out; omega))
       replace HRW := HRW4
       clear HRW4 HT4 HB1 HRD HEN
       obtain ⟨x0, x1, x2⟩ := HC.out.three)
    | fail)
  refine (mkTip_c 1 0 (by decide) (by decide) (by decide) _).mono ?_
  rintro e w9 ⟨rfl, rfl⟩
  rw [show ((tipN 1 0 : Nat) : Int) = 4294967296 from rfl]
  have y := HRW.out.cell (i := 8) (by omega)
  have f := HRW.out.thawed 8
  have i1 : (8 : Int) < (m : Int) := by omega
  go_wp2_with fail
  replace HB := hidp (Bput HB.out (p := ⟨g, 8, none⟩) (by have := HG.out; show w.heap.size <= g; omega) (.int .u64 4294967296))
  replace HC := hidp (HC.out.far (p := ⟨g, 8, none⟩) (by have := HG.out; show w.heap.size ≠ g; omega) (.int .u64 4294967296))
  replace HRW := hidp (HRW.out.put (i := 8) (by omega) (.int .u64 4294967296))
  refine (HVA.out _).mono ?_
  rintro e w5 ⟨g2, c2, rfl, hv, hg2, hb⟩
  have hgl := HRW.out.lt
  have HG2 : Hid (g < g2) := hidp (by omega)
  replace HC := hidp (HC.out.keep hb)
  replace HRW := hidp (HRW.out.keep hb)
  replace HB := hidp (Bgo HB.out hb)
  clear hb
  have HV := hidp hv
  clear hv hg2 hgl y f i1 x0 x1 x2
  obtain ⟨x0, x1, x2⟩ := HC.out.three
  go_wp2_with fail
  go_loopw [28] (fun u28 wr => ∃ j : Nat, j <= n /\ u28 = .int .i64 (j : Int) /\ Hid (RowF wr g 46 m m (wrdF (fwT t p s j))) /\ Hid (Held wr w.heap.size 23 #[.int .i64 (t : Int), .int .i64 (p : Int), .int .i64 (s : Int)]) /\ Hid (RowF wr g2 37 n c2 (valF (frV t p))) /\ Hid (Below w.heap.size w wr)) (fun u28 _ => n - (intOf u28).toNat)
  case atStart => exact ⟨0, by omega, rfl, hidp (HRW.out.congr fun i hi => by
      dsimp only [wrdF, updF, fwT]
      have hlen : (wordVs (headL (t : Int) (p : Int) (s : Int))).length = 8 := HWL.out
      by_cases e : i = 8
      · subst e; rw [if_pos rfl, if_neg (by omega), if_pos rfl]; rfl
      · rw [if_neg e]
        by_cases e2 : i < 8
        · rw [if_pos e2]
          unfold wordVs
          rw [List.getElem?_map, List.getElem?_eq_getElem (by rw [HHL.out]; exact e2)]
          simp [List.getD, List.getElem?_eq_getElem (show i < (headL (t : Int) (p : Int) (s : Int)).length by rw [HHL.out]; exact e2)]
        · rw [if_neg e2, if_neg e, if_neg (by omega), List.getElem?_eq_none (by omega)]
          rfl), HC, HV, HB⟩
  case round =>
    clear HRW HC HV HB x0 x1 x2
    obtain ⟨j, hj, rfl, HRW, HC, HV, HB⟩ := hrel
    obtain ⟨x0, x1, x2⟩ := HC.out.three
    by_cases hlt : j < n
    · have t1 : decide ((j : Int) < (n : Int)) = true := decide_eq_true (by omega)
      have t1n : decide (j < n) = true := decide_eq_true hlt
      obtain ⟨h, hh⟩ : ∃ h, frV t p j = h := ⟨_, rfl⟩
      have HCH : Hid (∀ w', RowF w' g2 37 n c2 (valF (frV t p)) -> w'.cell? ⟨g2, j, none⟩ = some (.int .u32 (h : Int))) := hidp (fun w' hv => by
        have := hv.cell (i := j) hlt
        unfold valF at this
        rw [hh] at this
        exact this)
      have h32 : h < 2 ^ 32 := by rw [<- hh]; unfold frV; split; omega; split; omega; split; omega; split <;> omega
      have HH := hidp hh
      clear hh
      obtain ⟨q, hq⟩ : ∃ q, 16 + j = q := ⟨_, rfl⟩
      have HQ := hidp hq
      have HWI : Hid (wordI (t : Int) (p : Int) (s : Int) (j : Int) = (q : Int)) := hidp (by unfold wordI; rw [HLC.out, nth_on (by omega) (by omega) (by omega)]; omega)
      have hqm : q < m := by omega
      have i1 : (q : Int) < (m : Int) := by omega
      have i2 : (j : Int) < (n : Int) := by omega
      clear hq
      go_wp2_with fail
      replace HC := hidp HC.out.drw
      replace HRW := hidp (HRW.out.keep (Bdrew (B0 _)))
      replace HV := hidp (HV.out.keep (Bdrew (B0 _)))
      replace HB := hidp (Bdrew HB.out)
      refine wp_region_held_drew (S := (fun w' => (w'.cell? ⟨w.heap.size, 0, none⟩ = some (.int .i64 (t : Int)) /\ w'.cell? ⟨w.heap.size, 1, none⟩ = some (.int .i64 (p : Int)) /\ w'.cell? ⟨w.heap.size, 2, none⟩ = some (.int .i64 (s : Int))) /\ w'.cell? ⟨g2, j, none⟩ = some (.int .u32 (h : Int)))) (by kernel_rfl) ?_ (fun hHeld => ?_)
      · (try dsimp only)
        first | exact ⟨HC.out.three, HCH.out _ HV.out⟩ | exact hHeld
      refine tkz 0 ?_
      refine tkz 1 ?_
      refine tkz 2 ?_
      refine tkz 4 ?_
      refine tkz 5 ?_
      refine tkz 6 ?_
      refine tkz 7 ?_
      refine rdz 3 fun K hK => ?_
      go_simp
      refine (plWord_c t p s (j : Int) _).mono ?_
      rintro e w6 ⟨rfl, hb⟩
      rw [HWI.out]
      replace HC := hidp (HC.out.keep hb)
      replace HRW := hidp (HRW.out.keep hb)
      replace HV := hidp (HV.out.keep hb)
      replace HB := hidp (Bgo HB.out hb)
      clear hb
      refine hK.out _ _ ?_ (fun hHeld => ?_)
      · (try dsimp only)
        first | exact ⟨HC.out.three, HCH.out _ HV.out⟩ | exact hHeld
      clear hK K
      (try simp only [Act.put, gA, gB, gC, sA, sB, sC])
      refine rdz 8 fun K hK => ?_
      go_simp
      refine (mkCell_c 0 h (by omega) h32 _).mono ?_
      rintro e w7 ⟨rfl, rfl⟩
      rw [show ((0 * 4294967296 + h : Nat) : Int) = (h : Int) by omega]
      have y := HRW.out.cell (i := q) hqm
      have f := HRW.out.thawed q
      refine hK.out _ _ ?_ (fun hHeld => ?_)
      · (try dsimp only)
        first | exact ⟨HC.out.three, HCH.out _ HV.out⟩ | exact hHeld
      clear hK K
      (try simp only [Act.put, gA, gB, gC, sA, sB, sC])
      refine tkz 9 ?_
      refine rdz 10 fun K hK => ?_
      go_simp
      replace HB := hidp (Bput HB.out (p := ⟨g, q, none⟩) (by have := HG.out; show w.heap.size <= g; omega) (.int .u64 (h : Int)))
      replace HC := hidp (HC.out.far (p := ⟨g, q, none⟩) (by have := HG.out; show w.heap.size ≠ g; omega) (.int .u64 (h : Int)))
      replace HRW := hidp (HRW.out.put (i := q) hqm (.int .u64 (h : Int)))
      replace HV := hidp (HV.out.far (p := ⟨g, q, none⟩) (by have := HG2.out; show g2 ≠ g; omega) (.int .u64 (h : Int)))
      refine hK.out _ _ ?_ (fun hHeld => ?_)
      · (try dsimp only)
        first | exact ⟨HC.out.three, HCH.out _ HV.out⟩ | exact hHeld
      clear hK K
      (try simp only [Act.put, gA, gB, gC, sA, sB, sC])
      refine dnz ?_
      go_wp2_with fail
      go_roundw
      case rel => exact ⟨j + 1, by omega, by go_num, hidp (HRW.out.congr fun i hi => by
          dsimp only [wrdF, updF, fwT]
          have := HH.out
          have hq := HQ.out
          by_cases e : i = q
          · subst e; rw [if_pos rfl, if_neg (by omega), if_neg (by omega), if_pos (by omega), show i - 16 = j by omega, this]
          · rw [if_neg e]
            by_cases e2 : i < 8
            · rw [if_pos e2, if_pos e2]
            · rw [if_neg e2, if_neg e2]
              by_cases e3 : i = 8
              · rw [if_pos e3, if_pos e3]
              · rw [if_neg e3, if_neg e3]
                by_cases e4 : 16 <= i /\ i < 16 + j
                · rw [if_pos e4, if_pos (by omega)]
                · rw [if_neg e4, if_neg (by omega)]), HC, HV, HB⟩
      case measure => simp [intOf]; omega
    · have t1 : decide ((j : Int) < (n : Int)) = false := decide_eq_false (by omega)
      have t1n : decide (j < n) = false := decide_eq_false hlt
      obtain rfl : j = n := by omega
      go_wp2
      go_ret
      exact ⟨g, m, rfl, HRW.out.congr (fun i hi => by unfold fwI; rw [<- HN.out]), by have := HG.out; omega, HB.out⟩
end
end Go.Proofs.YtlpcdfcghgapkaaGreat

namespace Go.Proofs.YtlpcdfcghgapkaaGreat
open Go.ChangeShapes Go.WideShapes Go.ChangeAt Go.RowKit Go.Maps
set_option linter.unusedVariables false
set_option linter.unusedSimpArgs false
section
section
variable {H : AuH} {n c hd : Nat} {g0 g' : Int -> Nat} {l l' : List Nat}
theorem path_mem {a q : Nat} (hp : H.Path hd l 0 a) (hk : H.ListOk hd) (hq : q < H.p) (ht : H.tgt q = hd) : q ∈ l := by
 have h1 := (AuH.listOk_iff hp).1 hk q hq
 unfold AuH.isF at h1
 rw [if_pos ht] at h1
 rcases Nat.eq_zero_or_pos (AuH.cntIn l q) with h2 | h2
 ·omega
 ·unfold AuH.cntIn at h2
  obtain ⟨x, hx⟩ := List.exists_mem_of_length_pos h2
  rw [List.mem_filter] at hx
  have : x = q := by simpa using hx.2
  subst this
  exact hx.1
end

section
variable {P hd t : Nat} {g : Int -> Nat} {l l1 l2 : List Nat} {p a' : Nat}
end
end
section
namespace AuH
structure Spans (H : AuH) : Prop where
 pos : 0 < H.p
 zero : H.K 0 ≠ 0
 fit : ∀ q, q < H.p -> H.K q ≠ 0 -> H.nx q <= H.p
 next : ∀ q, q < H.p -> H.K q ≠ 0 -> H.nx q < H.p -> H.K (H.nx q) ≠ 0
 inside : ∀ q r, q < H.p -> H.K q ≠ 0 -> q < r -> r < H.nx q -> H.cel r 0 = 0
 none : ∀ q, q < H.p -> H.K q = 0 -> H.cel q 0 = 0
variable {H : AuH}
theorem Spans.can (h : H.Spans) {q : Nat} (hq : q < H.p) (hk : H.K q ≠ 0) : H.can q = true := (H.can_iff q).2 ⟨hq, hk, h.fit q hq hk⟩
theorem Spans.reach (h : H.Spans) : ∀ n x, x <= n -> x <= H.p -> (x = H.p \/ H.K x ≠ 0) -> H.At x := by
  intro n
  induction n with
  | zero => intro x hx _ _; have : x = 0 := by omega
            subst this; exact .zero
  | succ n ih =>
    intro x hx hxp hk
    rcases Nat.lt_or_ge x (n + 1) with h1 | h1
    · exact ih x (by omega) hxp hk
    · have hx0 : x = n + 1 := by omega
      subst hx0
      -- the last page below x with a span's info
      have hlast : ∀ m, m <= n + 1 -> ∃ a, a < n + 1 /\ H.K a ≠ 0 /\ (∀ r, a < r -> r < n + 1 -> r <= m -> H.K r = 0) := by
        intro m
        induction m with
        | zero => intro _; exact ⟨0, by omega, h.zero, fun r h1 h2 h3 => by omega⟩
        | succ m ihm =>
          intro hm
          obtain ⟨a, a1, a2, a3⟩ := ihm (by omega)
          by_cases hkm : H.K (m + 1) ≠ 0 /\ m + 1 < n + 1
          · exact ⟨m + 1, hkm.2, hkm.1, fun r h1 h2 h3 => by omega⟩
          · refine ⟨a, a1, a2, fun r h1 h2 h3 => ?_⟩
            rcases Nat.lt_or_ge r (m + 1) with h4 | h4
            · exact a3 r h1 h2 (by omega)
            · have : r = m + 1 := by omega
              subst this
              by_cases h5 : H.K (m + 1) = 0
              · exact h5
              · exact absurd ⟨h5, h2⟩ hkm
      obtain ⟨a, a1, a2, a3⟩ := hlast (n + 1) (Nat.le_refl _)
      have hap : a < H.p := by omega
      have haa := ih a (by omega) (by omega) (.inr a2)
      have hgt := (H.nx_gt (h.can hap a2)).1
      have hfit := h.fit a hap a2
      have e : H.nx a = n + 1 := by
        rcases Nat.lt_trichotomy (H.nx a) (n + 1) with h2 | h2 | h2
        · have h3 := h.next a hap a2 (by omega)
          exact absurd (a3 _ hgt h2 (by omega)) h3
        · exact h2
        · have h3 := h.inside a (n + 1) hap a2 (by omega) h2
          have h4 := (H.K_zero (n + 1) h3).1
          rcases hk with h5 | h5
          · omega
          · exact absurd h4 h5
      have := At.step haa (h.can hap a2)
      rwa [e] at this
theorem Spans.tiled (h : H.Spans) : H.Tiled := by
 refine ⟨h.reach H.p H.p (Nat.le_refl _) (Nat.le_refl _) (.inl rfl), fun a ha hc hp q h1 h2 => ?_⟩
 have hcan := (H.can_iff a).1 hc
 exact h.inside a q hcan.1 hcan.2.1 h1 h2
theorem Tiled.spans (h : H.Tiled) (hp : 0 < H.p) : H.Spans where
 pos := hp
 zero := h.at_K .zero hp
 fit q hq hk := ((H.can_iff q).1 (h.start hq hk).2).2.2
 next q hq hk hn := by
  have hs := h.start hq hk
  exact h.at_K (.step hs.1 hs.2) hn
 inside q r hq hk h1 h2 := by
  have hs := h.start hq hk
  exact h.2 q hs.1 hs.2 hq r h1 h2
 none q hq hk := by
  obtain ⟨a, a1, a2, a3, a4, a5⟩ := h.cover hq
  rcases Nat.eq_or_lt_of_le a4 with h6 | h6
  ·subst h6; exact absurd hk a3
  ·have hs := h.start a2 a3
   exact h.2 a hs.1 hs.2 a2 q h6 a5
structure Ok (H : AuH) (L : Nat -> List Nat) : Prop where
 spans : H.Spans
 feet : H.R3
 apart : ∀ q, q < H.p -> H.K q = 1 -> H.nx q < H.p -> H.K (H.nx q) ≠ 1
 slots : H.R5
 list : ∀ hd : Nat, 2 <= hd -> hd <= 21 -> IsL H.p (nxH H.t) (pvH H.t) hd (fun c => H.V c.toNat) (L hd)
 mem : ∀ hd : Nat, 2 <= hd -> hd <= 21 -> ∀ y, y ∈ L hd ↔ y < H.p /\ H.tgt y = hd
 loose : H.R8
 counts : H.R9
 roots : H.R10
theorem okL_of (hp : 0 < H.p) (hr : ∀ i, i < 10 -> H.rule i) : ∃ L, H.Ok L := by
 have hti : H.Tiled := hr 1 (by omega)
 have hok : ∀ h, 2 <= h -> h <= 21 -> H.ListOk h := fun h a1 a2 => by
  rcases Nat.lt_or_ge h 13 with h1 | h1
  ·have h5 : ∀ k, k < 11 -> H.ListOk (2 + k) := hr 5 (by omega)
   have := h5 (h - 2) (by omega)
   rwa [show 2 + (h - 2) = h by omega] at this
  ·have h6 : ∀ k, k < 9 -> H.ListOk (13 + k) := hr 6 (by omega)
   have := h6 (h - 13) (by omega)
   rwa [show 13 + (h - 13) = h by omega] at this
 have hex : ∀ j, ∃ l : List Nat, 2 <= j -> j <= 21 -> ∃ a, H.Path j l 0 a := fun j => by
  by_cases hj : 2 <= j /\ j <= 21
  ·obtain ⟨l, a, h⟩ := AuH.listOk_path (hok j hj.1 hj.2)
   exact ⟨l, fun _ _ => ⟨a, h⟩⟩
  ·exact ⟨[], fun h1 h2 => absurd ⟨h1, h2⟩ hj⟩
 refine ⟨fun j => (hex j).choose, hti.spans hp, hr 2 (by omega), fun q hq hk hn => ?_, hr 4 (by omega), fun hd h2 h21 => ?_, fun hd h2 h21 y => ?_, hr 7 (by omega), hr 8 (by omega), hr 9 (by omega)⟩
 ·exact (show H.R4 from hr 3 (by omega)) q (hti.start hq (by omega)).1 hq hk hn
 ·obtain ⟨a, hpa⟩ := (hex hd).choose_spec h2 h21
  exact ⟨⟨a, path_seg (n := 30 + 4 * H.t + 6 * H.p) (K := fun i => some (H.V i)) (fun i _ => rfl) rfl (fun i _ => by simp) (by omega) hpa⟩, cntIn_nodup hpa.once.2.2.2⟩
 ·obtain ⟨a, hpa⟩ := (hex hd).choose_spec h2 h21
  exact ⟨fun hy => ⟨hpa.lt y hy, (path_len hpa (hok hd h2 h21)).2 y hy⟩, fun hy => path_mem hpa (hok hd h2 h21) hy.1 hy.2⟩
end AuH
end
end Go.Proofs.YtlpcdfcghgapkaaGreat

namespace Go.Proofs.YtlpcdfcghgapkaaGreat
open Go.ChangeShapes Go.WideShapes Go.ChangeAt Go.RowKit Go.Shelf
set_option linter.unusedVariables false
set_option linter.unusedSimpArgs false
section
namespace AuH
theorem mem_catTo {α : Type} {f : Nat -> List α} {x : α} : ∀ n, x ∈ catTo f n ↔ ∃ q, q < n /\ x ∈ f q
 | 0 => by simp [catTo]
 | n + 1 => by
  show x ∈ catTo f n ++ f n ↔ _
  rw [List.mem_append, mem_catTo n]
  constructor
  ·rintro (⟨q, h1, h2⟩ | h)
   ·exact ⟨q, by omega, h2⟩
   ·exact ⟨n, by omega, h⟩
  ·rintro ⟨q, h1, h2⟩
   rcases Nat.lt_or_ge q n with h | h
   ·exact .inl ⟨q, h, h2⟩
   ·obtain rfl : q = n := by omega
    exact .inr h2
end AuH
theorem mem_blocksOf {l : List (Int × Int × Int)} {x : Int × Int} : x ∈ blocksOf l ↔ (2, x) ∈ l := by
 unfold blocksOf
 rw [List.mem_map]
 constructor
 ·rintro ⟨y, h1, rfl⟩
  rw [List.mem_filter] at h1
  obtain ⟨h1, h2⟩ := h1
  have : y.1 = 2 := by simpa using h2
  rw [<- this]
  exact h1
 ·intro h
  exact ⟨(2, x), List.mem_filter.2 ⟨h, by simp⟩, rfl⟩
namespace AuH
theorem addr_at {H : AuH} {n c : Nat} (HV : HeapV H n c) {q o : Nat} (hq : q < H.p) (ho : o < H.pg) :
  addrB H.t H.p H.s q o = true /\ addrI H.t H.p H.s q o = H.first q + (o : Int) := by
 have hg := pg_le HV
 have hB : addrB H.t H.p H.s q o = true := by unfold addrB; rw [HV.right, hg.2.2.2, Bool.true_and, decide_eq_true_iff]; omega
 refine ⟨hB, ?_⟩
 unfold addrI
 rw [if_pos hB, hg.2.2.2]
 rfl
theorem spot_at {H : AuH} {n c : Nat} (HV : HeapV H n c) {q o : Nat} (hq : q < H.p) (ho : o < H.pg) :
  spotB H.t H.p H.s (H.first q + (o : Int)) = true /\ spotP H.t H.p H.s (H.first q + (o : Int)) = q /\ spotO H.t H.p H.s (H.first q + (o : Int)) = o := by
 obtain ⟨h1, h2⟩ := addr_at HV hq ho
 have h := addr_yes h1
 rw [h2] at h
 exact ⟨h.2.1, h.2.2.1, h.2.2.2.1⟩
theorem kd_two {a b i : Nat} (h : ((slotKd a b i : Nat) : Int) = 2) : b.testBit i = true := by
 unfold slotKd at h
 cases hb : b.testBit i
 ·rw [hb, if_neg (by simp)] at h
  split at h <;> omega
 ·rfl
theorem live_iff {H : AuH} {n c : Nat} (HV : HeapV H n c) (a : Int) : (∃ x ∈ blocksOf H.parts, x.1 = a) ↔ H.LiveAt a := by
 have hs := HV.nums
 have hg := pg_le HV
 constructor
 ·rintro ⟨⟨a', z⟩, hx, rfl⟩
  obtain ⟨q, hq, hx⟩ := (mem_catTo H.p).1 (mem_blocksOf.1 hx)
  show H.LiveAt a'
  unfold partsAt at hx
  by_cases h1 : H.K q = 1
  ·rw [if_pos h1] at hx
   simp at hx
  ·rw [if_neg h1] at hx
   by_cases h2 : H.K q = 2
   ·rw [if_pos h2] at hx
    simp at hx
    obtain ⟨g1, g2, g3⟩ := spot_at HV hq (show 0 < H.pg by omega)
    rw [show H.first q + ((0 : Nat) : Int) = a' by rw [hx.1]; simp] at g1 g2 g3
    refine ⟨g1, .inl ⟨?_, g3⟩⟩
    rw [g2, Int.toNat_natCast]
    exact h2
   ·rw [if_neg h2] at hx
    by_cases h3 : H.K q = 3
    ·rw [if_pos h3] at hx
     rcases List.mem_append.1 hx with hx | hx
     ·unfold slotsTo at hx
      obtain ⟨i, hi, he⟩ := List.mem_map.1 hx
      have hi := List.mem_range.1 hi
      unfold slotPart at he
      injection he with e1 e2
      injection e2 with e2 e3
      have hin := slot_in (s := (H.s : Int)) (k := H.Cl q) (by omega) (show i < slotI (H.Cl q) from hi)
      have hz : H.zs q = sizeN (H.s : Int) (H.Cl q) := rfl
      have ho : i * H.zs q < H.pg := by
       have h := hin.1
       rw [Nat.succ_mul] at h
       rw [hz, hg.2.2.1]
       omega
      obtain ⟨g1, g2, g3⟩ := spot_at HV hq ho
      have hcast : ((i * H.zs q : Nat) : Int) = (i : Int) * (H.zs q : Int) := by push_cast; rfl
      rw [show H.first q + ((i * H.zs q : Nat) : Int) = a' by rw [hcast]; exact e2] at g1 g2 g3
      have hsl := slot_at (t := H.t) (p := H.p) (s := H.s) (k := H.Cl q) HV.right i hi (o := ((i * H.zs q : Nat) : Int)) hcast
      refine ⟨g1, .inr ?_⟩
      rw [g2, g3, Int.toNat_natCast]
      exact ⟨h3, hsl.1, by rw [hsl.2, Int.toNat_natCast]; exact kd_two e1⟩
     ·unfold slack at hx
      split at hx
      ·simp at hx
      ·simp at hx
    ·rw [if_neg h3] at hx
     simp at hx
 ·rintro ⟨hs1, h⟩
  obtain ⟨h1, h2, _⟩ := spot_parts hs1
  obtain ⟨_, ⟨h9, h10⟩, h11, h12⟩ := addr_parts h1
  obtain ⟨q, hqq⟩ : ∃ q : Nat, spotP H.t H.p H.s a = q := ⟨(spotP H.t H.p H.s a).toNat, by omega⟩
  rw [hqq] at h1 h2 h h10
  rw [Int.toNat_natCast] at h
  have hq : q < H.p := by omega
  have hA : a = H.first q + spotO H.t H.p H.s a := by
   have : addrI H.t H.p H.s q (spotO H.t H.p H.s a) = H.first q + spotO H.t H.p H.s a := by
    unfold addrI
    rw [if_pos h1, hg.2.2.2]
    rfl
   rw [<- this]
   exact h2.symm
  rcases h with ⟨hk, ho⟩ | ⟨hk, hsb, htb⟩
  ·rw [ho] at hA
   refine ⟨(a, (H.ln q : Int) * (H.pg : Int)), mem_blocksOf.2 ((mem_catTo H.p).2 ⟨q, hq, ?_⟩), rfl⟩
   unfold partsAt
   rw [if_neg (by omega), if_pos hk, hA, Int.add_zero]
   simp
  ·obtain ⟨_, i, g1, g2, g3⟩ := slot_parts hsb
   rw [g3, Int.toNat_natCast] at htb
   refine ⟨(a, (H.zs q : Int)), mem_blocksOf.2 ((mem_catTo H.p).2 ⟨q, hq, ?_⟩), rfl⟩
   unfold partsAt
   rw [if_neg (by omega), if_neg (by omega), if_pos hk]
   refine List.mem_append_left _ (List.mem_map.2 ⟨i, List.mem_range.2 g1, ?_⟩)
   unfold slotPart slotKd
   rw [if_pos htb, hA, g2]
   rfl
end AuH
end
end Go.Proofs.YtlpcdfcghgapkaaGreat

namespace Go.Proofs.YtlpcdfcghgapkaaGreat
open Go.ChangeShapes Go.WideShapes Go.ChangeAt Go.RowKit
set_option linter.unusedVariables false
section
def Contig : Int -> List (Int × Int × Int) -> Int -> Prop
 | a, [], b => a = b
 | a, x :: l, b => (x.2.1 = a /\ 1 <= x.2.2 /\ 1 <= x.1 /\ x.1 <= 5) /\ Contig (a + x.2.2) l b
theorem Contig.app : ∀ {l : List (Int × Int × Int)} {a b c : Int} {m : List (Int × Int × Int)}, Contig a l b -> Contig b m c -> Contig a (l ++ m) c
 | [], a, b, c, m, h, h' => by
  have : a = b := h
  subst this
  exact h'
 | x :: l, a, b, c, m, h, h' => ⟨h.1, Contig.app h.2 h'⟩
theorem Contig.one {k a z : Int} (hk : 1 <= k /\ k <= 5) (hz : 1 <= z) : Contig a [(k, a, z)] (a + z) := ⟨⟨rfl, hz, hk.1, hk.2⟩, rfl⟩
namespace AuH
variable {H : AuH}
theorem first_add (q m : Nat) : H.first q + (m : Int) * (H.pg : Int) = H.first (q + m) := by
 unfold first
 rw [<- Int.add_mul]
 congr 1
 push_cast
 omega
theorem slot_kd (q i : Nat) : 1 <= (H.slotPart q i).1 /\ (H.slotPart q i).1 <= 5 := by
 show 1 <= ((slotKd _ _ i : Nat) : Int) /\ ((slotKd _ _ i : Nat) : Int) <= 5
 unfold slotKd
 split
 ·decide
 ·split <;> decide
theorem slots_contig (q : Nat) (hz : 1 <= H.zs q) : ∀ k, Contig (H.first q) (H.slotsTo q k) (H.first q + (k : Int) * (H.zs q : Int))
 | 0 => by
  have e : H.first q + ((0 : Nat) : Int) * (H.zs q : Int) = H.first q := by simp
  rw [e]
  exact rfl
 | k + 1 => by
  rw [slotsTo_succ]
  have e : H.first q + ((k + 1 : Nat) : Int) * (H.zs q : Int) = (H.first q + (k : Int) * (H.zs q : Int)) + (H.zs q : Int) := by
   push_cast
   rw [Int.add_mul]
   omega
  rw [e]
  exact (slots_contig q hz k).app ⟨⟨rfl, by show 1 <= (H.zs q : Int); omega, (slot_kd q k).1, (slot_kd q k).2⟩, rfl⟩
theorem partsAt_contig {n c : Nat} (HV : HeapV H n c) {q : Nat} (hk : H.K q ≠ 0) : Contig (H.first q) (H.partsAt q) (H.first (H.nx q)) := by
 have hg := pg_le HV
 have hs := HV.nums
 have hkc := H.K_cases q
 have hnx : H.first (H.nx q) = H.first q + (H.ln q : Int) * (H.pg : Int) := (first_add q (H.ln q)).symm
 have hpos : ∀ m : Nat, 1 <= m -> 1 <= (m : Int) * (H.pg : Int) := fun m hm => by
  have h1 : 1 * 1 <= m * H.pg := Nat.mul_le_mul hm (by omega)
  have h2 : ((m * H.pg : Nat) : Int) = (m : Int) * (H.pg : Int) := by push_cast; rfl
  rw [<- h2]
  omega
 rw [hnx]
 unfold partsAt
 by_cases h1 : H.K q = 1
 ·rw [if_pos h1]
  exact Contig.one (by omega) (hpos _ (by omega))
 ·rw [if_neg h1]
  by_cases h2 : H.K q = 2
  ·rw [if_pos h2]
   exact Contig.one (by omega) (hpos _ (by omega))
  ·have h3 : H.K q = 3 := by omega
   have hl : H.ln q = 1 := by omega
   rw [if_neg h2, if_pos h3, hl]
   obtain ⟨kc, hkc2⟩ : ∃ kc : Nat, H.Cl q = kc := ⟨(H.Cl q).toNat, by omega⟩
   have hf := size_facts (s := (H.s : Int)) (by omega) (k := kc) (by omega)
   have hz : H.zs q = sizeN (H.s : Int) (kc : Int) := by unfold zs; rw [hkc2]
   have hsl : H.sl q = slotN kc := by unfold sl; rw [hkc2, slotI_nat]
   have hfit : H.sl q * H.zs q <= H.pg := by rw [hz, hsl, hg.2.2.1, Nat.mul_comm]; exact hf.2.2.1
   have hc := slots_contig (H := H) q (by rw [hz]; omega) (H.sl q)
   have e1 : (H.sl q : Int) * (H.zs q : Int) = ((H.sl q * H.zs q : Nat) : Int) := by push_cast; rfl
   rw [e1] at hc
   unfold slack
   have e2 : H.first q + ((1 : Nat) : Int) * (H.pg : Int) = H.first q + (H.pg : Int) := by simp
   rw [e2]
   by_cases h4 : H.sl q * H.zs q < H.pg
   ·rw [if_pos h4]
    have := hc.app (Contig.one (k := 5) (a := H.first q + ((H.sl q * H.zs q : Nat) : Int)) (z := (H.pg : Int) - ((H.sl q * H.zs q : Nat) : Int)) (by omega) (by omega))
    have e3 : H.first q + ((H.sl q * H.zs q : Nat) : Int) + ((H.pg : Int) - ((H.sl q * H.zs q : Nat) : Int)) = H.first q + (H.pg : Int) := by omega
    rwa [e3] at this
   ·rw [if_neg h4, List.append_nil]
    have e3 : ((H.sl q * H.zs q : Nat) : Int) = (H.pg : Int) := by omega
    rwa [e3] at hc
theorem parts_contig {n c : Nat} (HV : HeapV H n c) (ht : H.Tiled) : Contig (H.pg : Int) H.parts (H.first H.p) := by
 have h : ∀ x, H.At x -> Contig (H.pg : Int) (catTo H.partsAt x) (H.first x) := by
  intro x hx
  induction hx with
  | zero =>
   show (H.pg : Int) = H.first 0
   unfold first
   simp
  | step ha hc ih =>
   have hk := (H.can_iff _).1 hc
   rw [ht.cat ha hk.1 (fun q _ h => partsAt_no h)]
   exact ih.app (partsAt_contig HV hk.2.1)
 exact h _ ht.1
end AuH
end
end Go.Proofs.YtlpcdfcghgapkaaGreat

namespace Go.Proofs.YtlpcdfcghgapkaaGreat
open Go.ChangeShapes Go.WideShapes Go.ChangeAt Go.RowKit Go.Maps
set_option linter.unusedVariables false
set_option linter.unusedSimpArgs false
section
section
variable {H : AuH} {n c : Nat} {K : Nat -> Option Nat} {st : Vst} {L L' : Nat -> List Nat} {g : Nat -> Nat} {A k e : Nat}
theorem blocks_none {f : Nat -> List (Int × Int × Int)} : ∀ m, (∀ i, i < m -> blocksOf (f i) = []) -> blocksOf (AuH.catTo f m) = []
 | 0, _ => rfl
 | m + 1, h => by
  show blocksOf (AuH.catTo f m ++ f m) = _
  rw [blocksOf_app, blocks_none m (fun i hi => h i (by omega)), h m (by omega)]
  rfl
theorem page_none {q : Nat} (hk : H.K q = 0 \/ H.K q = 1) : blocksOf (H.partsAt q) = [] := by
 unfold AuH.partsAt
 rcases hk with h | h
 ·rw [if_neg (by omega), if_neg (by omega), if_neg (by omega)]; rfl
 ·rw [if_pos h]; exact blocksOf_no (by simp)
end
end
end Go.Proofs.YtlpcdfcghgapkaaGreat
