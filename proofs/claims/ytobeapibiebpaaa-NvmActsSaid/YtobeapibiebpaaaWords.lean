/-
  The comparison of two lists of words (Words): whether they are the same.
-/
import Derived.Test.YtobeapibiebpaaaKit
import Derived.Deep.DeepFit
namespace Go.Proofs.Ytobeapibiebpaaa
open Go.ChangeShapes Go.WideShapes Go.ChangeAt Go.RowKit
set_option linter.unusedVariables false

theorem add_blk (g k : Nat) : (⟨g, 0, none⟩ : Addr).add k = ⟨g, k, none⟩ := by
  unfold Addr.add
  by_cases h : k = 0
  · rw [if_pos h, h]
  · rw [if_neg h]; simp
theorem words_at {xs : List Nat} {k : Nat} {w : World} {B : Nat} {A : Option Addr} {n : Nat} (hn : xs.length = n) (h : Reads w B 1 A n (wordVs xs)) (hk : k < n) :
    ∃ ad, A = some ad ∧ ad.block < B ∧ w.cell? (ad.add k) = some (.int .u64 ((xs.getD k 0 : Nat) : Int)) := by
  obtain ⟨ad, u, rfl, hb, hx, hc⟩ := h.at_ hk
  rw [wordVs_at xs k (by omega)] at hx
  injection hx with hx
  subst hx
  exact ⟨ad, rfl, hb, hc⟩
theorem take_eq {xs ys : List Nat} {n : Nat} (hx : xs.length = n) (hy : ys.length = n) (h : ∀ i, i < n → xs.getD i 0 = ys.getD i 0) : xs = ys := by
  refine List.ext_getElem (by omega) fun i h1 h3 => ?_
  have := h i (by omega)
  simpa [List.getD, List.getElem?_eq_getElem h1, List.getElem?_eq_getElem h3] using this

theorem Words_c (xs ys : List Nat) (n m : Nat) (HN : Hid (xs.length = n)) (HM : Hid (ys.length = m)) (A A' : Option Addr) (c c' : Nat) (hm : n ≤ maxLen) (hm' : m ≤ maxLen) (w : World) (B B' : Nat) (HR : Hid (Reads w B 1 A n (wordVs xs))) (HS : Hid (Reads w B' 1 A' m (wordVs ys))) :
    Calls Try.prog 13 #[.slice A n c, .slice A' m c'] w fun e w' => e = .returned (.bool (decide (xs = ys))) ∧ ∃ n, w' = w.drewN n := by
  unfold maxLen at hm hm'
  by_cases hl : n = m
  · subst hl
    go_enter Try.func13, Try.ntmps13
    go_wp2
    go_loopw [5] (fun i wr => ∃ k j : Nat, k ≤ n ∧ Hid (∀ i, i < k → xs.getD i 0 = ys.getD i 0) ∧ i = .int .i64 k ∧ wr = w.drewN j) (fun i _ => n - (intOf i).toNat)
    case atStart => exact ⟨0, 0, by omega, hidp (fun i hi => by omega), rfl, rfl⟩
    case round =>
      obtain ⟨k, j, hk, HE, rfl, rfl⟩ := hrel
      by_cases hlt : k < n
      · obtain ⟨ad, rfl, _, c1⟩ := words_at HN.out HR.out hlt
        obtain ⟨ad', rfl, _, c2⟩ := words_at HM.out HS.out hlt
        by_cases he : xs.getD k 0 = ys.getD k 0
        · have HE2 : Hid (∀ i, i < k + 1 → xs.getD i 0 = ys.getD i 0) := hidp (fun i hi => by
            rcases Nat.lt_or_ge i k with h | h
            · exact HE.out i h
            · obtain rfl : i = k := by omega
              exact he)
          rw [← he] at c2
          clear he
          generalize xs.getD k 0 = x at *
          go_wp2
          go_quiet (fail)
          go_wp2
          go_roundw
          case rel => exact ⟨k + 1, _, by omega, HE2, by go_num, rfl⟩
          case measure => simp [intOf]; omega
        · have HD : Hid (decide (xs = ys) = false) := hidp (decide_eq_false (fun h => he (by rw [h])))
          generalize xs.getD k 0 = x at *
          generalize ys.getD k 0 = y at *
          have t0 : ((x : Int) != y) = true := by simp; omega
          have t1 : ((x : Int) == y) = false := by simp; omega
          have t2 : (x == y) = false := by simp; omega
          clear he
          go_wp2
          go_quiet (fail)
          go_wp2
          go_ret
          exact ⟨by rw [HD.out]; rfl, by first | exact ⟨_, rfl⟩ | exact ⟨_, World.drewN_drewN _ _ _⟩⟩
      · have HD : Hid (decide (xs = ys) = true) := hidp (decide_eq_true (take_eq HN.out HM.out (fun i hi => HE.out i (by omega))))
        go_wp2
        go_ret
        exact ⟨by rw [HD.out]; rfl, j, rfl⟩
  · have HD : Hid (decide (xs = ys) = false) := hidp (decide_eq_false (fun h => by have := HN.out; have := HM.out; subst h; omega))
    have t0 : ((n : Int) != m) = true := by simp; omega
    have t1 : ((n : Int) == m) = false := by simp; omega
    have t2 : (n == m) = false := by simp; omega
    go_enter Try.func13, Try.ntmps13
    go_wp2
    go_ret
    exact ⟨by rw [HD.out]; rfl, 0, rfl⟩
theorem Words_same (xs : List Nat) (n : Nat) (HN : Hid (xs.length = n)) (A A' : Option Addr) (c c' : Nat) (hm : n ≤ maxLen) (w : World) (B B' : Nat) (HR : Hid (Reads w B 1 A n (wordVs xs))) (HS : Hid (Reads w B' 1 A' n (wordVs xs))) :
    Calls Try.prog 13 #[.slice A n c, .slice A' n c'] w fun e w' => e = .returned (.bool true) ∧ ∃ n, w' = w.drewN n := by
  have h := Words_c xs xs n n HN HN A A' c c' hm hm w B B' HR HS
  rwa [decide_eq_true (rfl : xs = xs)] at h
end Go.Proofs.Ytobeapibiebpaaa
