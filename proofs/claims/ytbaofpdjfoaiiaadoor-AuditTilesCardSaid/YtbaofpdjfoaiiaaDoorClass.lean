/-
  Contracts of class's and nacreref05's slots and sizes.
-/
import Derived.Test.YtbaofpdjfoaiiaaDoorConfWord
import Derived.Test.YtbaofpdjfoaiiaaDoorClassMath
import Derived.Test.YtbaofpdjfoaiiaaDoorRow
namespace Go.Proofs.YtbaofpdjfoaiiaaDoor
open Go.ChangeShapes Go.WideShapes Go.ChangeAt Go.RowKit
set_option linter.unusedVariables false
set_option linter.unusedSimpArgs false

/-- the variable holds how many slots a slab of each class has -/
def SlotsLaid (w : World) : Prop := ∀ k : Nat, k < 9 → w.cell? ⟨0, k, none⟩ = some (.int .i64 ((slotN k : Nat) : Int))
theorem SlotsLaid.below {w w' : World} (h : SlotsLaid w) (hb : Below w.heap.size w w') : SlotsLaid w' := fun k hk => cells_stay hb _ _ (h k hk)
theorem SlotsLaid.alloc {w : World} (h : SlotsLaid w) (o : Obj) : SlotsLaid (w.alloc o) := h.below (Bnew (B0 _) _)
theorem SlotsLaid.drewN {w : World} (h : SlotsLaid w) (n : Nat) : SlotsLaid (w.drewN n) := h.below (Bdraw (B0 _) _)
theorem SlotsLaid.drew {w : World} (h : SlotsLaid w) : SlotsLaid w.drew := h.below (Bdrew (B0 _))

theorem clSlots_c (k : Int) (h0 : -9223372036854775808 ≤ k) (h1 : k ≤ 9223372036854775807) (w : World) (hT : SlotsLaid w) :
    Calls Tryd.prog 33 #[.int .i64 k] w fun e w' => e = .returned (.int .i64 ((slotI k : Nat) : Int)) ∧ w = w' := by
  by_cases a : k < 0
  · have E := hidp (slotI_out (.inl a))
    go_enter Tryd.func33, Tryd.ntmps33
    go_wp2
    go_ret
    exact ⟨by rw [E.out]; rfl, rfl⟩
  by_cases b : 9 ≤ k
  · have E := hidp (slotI_out (.inr b))
    go_enter Tryd.func33, Tryd.ntmps33
    go_wp2
    go_ret
    exact ⟨by rw [E.out]; rfl, rfl⟩
  · obtain ⟨k, rfl⟩ : ∃ n : Nat, k = n := ⟨k.toNat, by omega⟩
    have E := hidp (slotI_nat k)
    have hk : k < 9 := by omega
    have hc := hT k hk
    have HT := hidp hT
    clear hT
    go_enter Tryd.func33, Tryd.ntmps33
    go_wp2
    go_ret
    exact ⟨by rw [E.out]; rfl, rfl⟩

theorem clpage_c (s : Int) (w : World) :
    Calls Tryd.prog 56 #[.int .i64 s] w fun e w' => e = .returned (.int .i64 ((pageS s : Nat) : Int)) ∧ Below w.heap.size w w' := by
  go_enter Tryd.func56, Tryd.ntmps56
  go_wp2_with fail
  refine (cfPage_c 1 4 s _).mono ?_
  rintro e w1 ⟨rfl, hb1⟩
  go_wp2
  go_ret
  exact ⟨rfl, Bgo (B0 _) hb1⟩

theorem clSize_c (s k : Int) (h0 : -9223372036854775808 ≤ k) (h1 : k ≤ 9223372036854775807) (w : World) (hT : SlotsLaid w) :
    Calls Tryd.prog 30 #[.int .i64 s, .int .i64 k] w fun e w' => e = .returned (.int .i64 ((sizeN s k : Nat) : Int)) ∧ Below w.heap.size w w' := by
  obtain ⟨n, hn⟩ : ∃ n, slotI k = n := ⟨_, rfl⟩
  obtain ⟨p, hp⟩ : ∃ p, pageS s = p := ⟨_, rfl⟩
  have hn1 : n ≤ 32 := hn ▸ slotI_le k
  have hp1 : p ≤ 1048576 := hp ▸ pageS_le s
  have E : sizeN s k = p / n - p / n % 16 := by unfold sizeN; rw [hn, hp]
  have HN := hidp hn
  have HP := hidp hp
  have HE := hidp E
  clear hn hp E
  by_cases hz : n = 0
  · subst hz
    go_enter Tryd.func30, Tryd.ntmps30
    go_wp2_with fail
    refine (clSlots_c k h0 h1 _ hT).mono ?_
    rintro e w1 ⟨rfl, rfl⟩
    rw [HN.out]
    go_wp2
    go_ret
    exact ⟨by rw [HE.out]; simp, B0 _⟩
  · have hq : ((p : Int).tdiv n) = ((p / n : Nat) : Int) := by rw [Int.tdiv_eq_ediv_of_nonneg (by omega)]; norm_cast
    have hq1 : p / n ≤ 1048576 := Nat.le_trans (Nat.div_le_self _ _) hp1
    obtain ⟨q, hqq⟩ : ∃ q, p / n = q := ⟨_, rfl⟩
    rw [hqq] at hq hq1
    have HQ := hidp hqq
    clear hqq
    go_enter Tryd.func30, Tryd.ntmps30
    go_wp2_with fail
    refine (clSlots_c k h0 h1 _ hT).mono ?_
    rintro e w1 ⟨rfl, rfl⟩
    rw [HN.out]
    go_wp2_with fail
    refine (clpage_c s _).mono ?_
    rintro e w2 ⟨rfl, hb2⟩
    rw [HP.out]
    go_wp2
    go_ret
    refine ⟨?_, hb2⟩
    rw [HE.out, HQ.out]
    refine ret_int ?_
    omega

end Go.Proofs.YtbaofpdjfoaiiaaDoor
