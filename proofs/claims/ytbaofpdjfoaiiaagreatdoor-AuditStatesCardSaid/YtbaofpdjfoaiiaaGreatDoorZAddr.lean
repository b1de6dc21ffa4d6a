/-
  Contracts of class's and nacreref05's slots and sizes.
-/
import Derived.Test.YtbaofpdjfoaiiaaGreatDoorZConf
import Derived.Test.YtbaofpdjfoaiiaaGreatDoorZMath
import Derived.Test.YtbaofpdjfoaiiaaGreatDoorZRow
import Derived.RegionTactic
import Derived.ChangeAlike
import Derived.BigQuiet
namespace Go.Proofs.YtbaofpdjfoaiiaaGreatDoor
open Go.ChangeShapes Go.WideShapes Go.ChangeAt Go.RowKit
set_option linter.unusedVariables false
set_option linter.unusedSimpArgs false

/-- the variable holds how many slots a slab of each class has -/
def SlotsLaid (w : World) : Prop := ∀ k : Nat, k < 9 → w.cell? ⟨0, k, none⟩ = some (.int .i64 ((slotN k : Nat) : Int))
theorem SlotsLaid.below {w w' : World} (h : SlotsLaid w) (hb : Below w.heap.size w w') : SlotsLaid w' := fun k hk => cells_stay hb _ _ (h k hk)
theorem SlotsLaid.alloc {w : World} (h : SlotsLaid w) (o : Obj) : SlotsLaid (w.alloc o) := h.below (Bnew (B0 _) _)
theorem SlotsLaid.drewN {w : World} (h : SlotsLaid w) (n : Nat) : SlotsLaid (w.drewN n) := h.below (Bdraw (B0 _) _)
theorem SlotsLaid.drew {w : World} (h : SlotsLaid w) : SlotsLaid w.drew := h.below (Bdrew (B0 _))

theorem clSlots_c (k : Int) (h0 : -9223372036854775808 ≤ k) (h1 : k ≤ 9223372036854775807) (w : World) (hT : SlotsLaid w) :
    Calls Tryz.prog 101 #[.int .i64 k] w fun e w' => e = .returned (.int .i64 ((slotI k : Nat) : Int)) ∧ w = w' := by
  by_cases a : k < 0
  · have E := hidp (slotI_out (.inl a))
    go_enter Tryz.func101, Tryz.ntmps101
    go_wp2
    go_ret
    exact ⟨by rw [E.out]; rfl, rfl⟩
  by_cases b : 9 ≤ k
  · have E := hidp (slotI_out (.inr b))
    go_enter Tryz.func101, Tryz.ntmps101
    go_wp2
    go_ret
    exact ⟨by rw [E.out]; rfl, rfl⟩
  · obtain ⟨k, rfl⟩ : ∃ n : Nat, k = n := ⟨k.toNat, by omega⟩
    have E := hidp (slotI_nat k)
    have hk : k < 9 := by omega
    have hc := hT k hk
    have HT := hidp hT
    clear hT
    go_enter Tryz.func101, Tryz.ntmps101
    go_wp2
    go_ret
    exact ⟨by rw [E.out]; rfl, rfl⟩

theorem r5Slots_c (k : Int) (h0 : -9223372036854775808 ≤ k) (h1 : k ≤ 9223372036854775807) (w : World) :
    Calls Tryz.prog 56 #[.int .i64 k] w fun e w' => e = .returned (.int .i64 ((slotI k : Nat) : Int)) ∧ w = w' := by
  by_cases a : 0 ≤ k ∧ k < 9
  · obtain ⟨k, rfl⟩ : ∃ n : Nat, k = n := ⟨k.toNat, by omega⟩
    have hk : k < 9 := by omega
    clear a h0 h1
    match k, hk with
    | 0, _ | 1, _ | 2, _ | 3, _ | 4, _ | 5, _ | 6, _ | 7, _ | 8, _ =>
      go_enter Tryz.func56, Tryz.ntmps56
      go_wp2
      go_ret
      exact ⟨rfl, rfl⟩
  · have E := hidp (slotI_out (k := k) (by omega))
    have e0 : (k == 0) = false := by simp; omega
    have e1 : (k == 1) = false := by simp; omega
    have e2 : (k == 2) = false := by simp; omega
    have e3 : (k == 3) = false := by simp; omega
    have e4 : (k == 4) = false := by simp; omega
    have e5 : (k == 5) = false := by simp; omega
    have e6 : (k == 6) = false := by simp; omega
    have e7 : (k == 7) = false := by simp; omega
    have e8 : (k == 8) = false := by simp; omega
    go_enter Tryz.func56, Tryz.ntmps56
    go_wp2
    go_ret
    exact ⟨by rw [E.out]; rfl, rfl⟩

theorem clpage_c (s : Int) (w : World) :
    Calls Tryz.prog 122 #[.int .i64 s] w fun e w' => e = .returned (.int .i64 ((pageS s : Nat) : Int)) ∧ Below w.heap.size w w' := by
  go_enter Tryz.func122, Tryz.ntmps122
  go_wp2_with fail
  refine (cfPage_c 1 4 s _).mono ?_
  rintro e w1 ⟨rfl, hb1⟩
  go_wp2
  go_ret
  exact ⟨rfl, Bgo (B0 _) hb1⟩

theorem clSize_c (s k : Int) (h0 : -9223372036854775808 ≤ k) (h1 : k ≤ 9223372036854775807) (w : World) (hT : SlotsLaid w) :
    Calls Tryz.prog 100 #[.int .i64 s, .int .i64 k] w fun e w' => e = .returned (.int .i64 ((sizeN s k : Nat) : Int)) ∧ Below w.heap.size w w' := by
  obtain ⟨n, hn⟩ : ∃ n, slotI k = n := ⟨_, rfl⟩
  obtain ⟨p, hp⟩ : ∃ p, pageS s = p := ⟨_, rfl⟩
  have hn1 : n ≤ 32 := hn ▸ slotI_le k
  have hp1 : p ≤ 1048576 := hp ▸ pageS_le s
  have E : sizeN s k = p / n - p / n % 16 := by unfold sizeN; rw [hn, hp]
  have HN := hidp hn
  have HP := hidp hp
  have HE := hidp E
  clear hn hp E
  by_cases hz : n = 0
  · subst hz
    go_enter Tryz.func100, Tryz.ntmps100
    go_wp2_with fail
    refine (clSlots_c k h0 h1 _ hT).mono ?_
    rintro e w1 ⟨rfl, rfl⟩
    rw [HN.out]
    go_wp2
    go_ret
    exact ⟨by rw [HE.out]; simp, B0 _⟩
  · have hq : ((p : Int).tdiv n) = ((p / n : Nat) : Int) := by rw [Int.tdiv_eq_ediv_of_nonneg (by omega)]; norm_cast
    have hq1 : p / n ≤ 1048576 := Nat.le_trans (Nat.div_le_self _ _) hp1
    obtain ⟨q, hqq⟩ : ∃ q, p / n = q := ⟨_, rfl⟩
    rw [hqq] at hq hq1
    have HQ := hidp hqq
    clear hqq
    go_enter Tryz.func100, Tryz.ntmps100
    go_wp2_with fail
    refine (clSlots_c k h0 h1 _ hT).mono ?_
    rintro e w1 ⟨rfl, rfl⟩
    rw [HN.out]
    go_wp2_with fail
    refine (clpage_c s _).mono ?_
    rintro e w2 ⟨rfl, hb2⟩
    rw [HP.out]
    go_wp2
    go_ret
    refine ⟨?_, hb2⟩
    rw [HE.out, HQ.out]
    refine ret_int ?_
    omega

theorem r5Size_c (s k : Int) (h0 : -9223372036854775808 ≤ k) (h1 : k ≤ 9223372036854775807) (w : World) :
    Calls Tryz.prog 103 #[.int .i64 s, .int .i64 k] w fun e w' => e = .returned (.int .i64 ((sizeN s k : Nat) : Int)) ∧ Below w.heap.size w w' := by
  obtain ⟨n, hn⟩ : ∃ n, slotI k = n := ⟨_, rfl⟩
  obtain ⟨p, hp⟩ : ∃ p, pageS s = p := ⟨_, rfl⟩
  have hn1 : n ≤ 32 := hn ▸ slotI_le k
  have hp1 : p ≤ 1048576 := hp ▸ pageS_le s
  have E : sizeN s k = p / n - p / n % 16 := by unfold sizeN; rw [hn, hp]
  have HN := hidp hn
  have HP := hidp (show pageN 1 4 s = p from hp)
  have HE := hidp E
  clear hn hp E
  by_cases hz : n = 0 ∨ p = 0
  · have hE : p / n - p / n % 16 = 0 := by rcases hz with rfl | rfl <;> simp
    have HE2 := hidp (HE.out.trans hE)
    clear hE
    rcases hz with rfl | rfl
    · go_enter Tryz.func103, Tryz.ntmps103
      go_wp2_with fail
      refine (r4Page_c 1 4 s _).mono ?_
      rintro e w2 ⟨rfl, hb2⟩
      rw [HP.out]
      go_wp2_with fail
      refine (r5Slots_c k h0 h1 _).mono ?_
      rintro e w1 ⟨rfl, rfl⟩
      rw [HN.out]
      go_wp2
      go_ret
      exact ⟨by rw [HE2.out]; rfl, hb2⟩
    · have hn0 : ¬ n = 0 ∨ n = 0 := by omega
      rcases hn0 with hn0 | rfl
      all_goals
        go_enter Tryz.func103, Tryz.ntmps103
        go_wp2_with fail
        refine (r4Page_c 1 4 s _).mono ?_
        rintro e w2 ⟨rfl, hb2⟩
        rw [HP.out]
        go_wp2_with fail
        refine (r5Slots_c k h0 h1 _).mono ?_
        rintro e w1 ⟨rfl, rfl⟩
        rw [HN.out]
        go_wp2
        go_ret
        exact ⟨by rw [HE2.out]; rfl, hb2⟩
  · have hq : ((p : Int).tdiv n) = ((p / n : Nat) : Int) := by rw [Int.tdiv_eq_ediv_of_nonneg (by omega)]; norm_cast
    have hq1 : p / n ≤ 1048576 := Nat.le_trans (Nat.div_le_self _ _) hp1
    obtain ⟨q, hqq⟩ : ∃ q, p / n = q := ⟨_, rfl⟩
    rw [hqq] at hq hq1
    have HQ := hidp hqq
    have hn2 : ¬ n = 0 := by omega
    have hp2 : ¬ p = 0 := by omega
    have hn3 : ((n : Int) == 0) = false := by simpa using hn2
    have hp3 : ((p : Int) == 0) = false := by simpa using hp2
    clear hqq hz
    go_enter Tryz.func103, Tryz.ntmps103
    go_wp2_with fail
    refine (r4Page_c 1 4 s _).mono ?_
    rintro e w2 ⟨rfl, hb2⟩
    rw [HP.out]
    go_wp2_with fail
    refine (r5Slots_c k h0 h1 _).mono ?_
    rintro e w1 ⟨rfl, rfl⟩
    rw [HN.out]
    go_wp2
    go_ret
    refine ⟨?_, hb2⟩
    rw [HE.out, HQ.out]
    refine ret_int ?_
    omega

end Go.Proofs.YtbaofpdjfoaiiaaGreatDoor

/-
  Contracts of addr's and nacreref06's functions.
-/
namespace Go.Proofs.YtbaofpdjfoaiiaaGreatDoor
open Go.ChangeShapes Go.WideShapes Go.ChangeAt Go.RowKit
set_option linter.unusedVariables false
set_option linter.unusedSimpArgs false

theorem ret_ib {k : IntKind} {a b : Int} {c d : Bool} (h : a = b) (h2 : c = d) : Ending.returned (.tuple #[.int k a, .bool c]) = .returned (.tuple #[.int k b, .bool d]) := by rw [h, h2]
theorem ret_iib {k l : IntKind} {a b a' b' : Int} {c d : Bool} (h : a = b) (h1 : a' = b') (h2 : c = d) : Ending.returned (.tuple #[.int k a, .int l a', .bool c]) = .returned (.tuple #[.int k b, .int l b', .bool d]) := by rw [h, h1, h2]
theorem spot_eq (t p s a : Int) (g b : Nat) (hg : pageN t p s = g) (hb : bytesN t p s = b) : spotB t p s a = decide ((g : Int) ≤ a ∧ a - g < (b : Int)) := by unfold spotB; rw [hg, hb]
theorem bytes_pos {t p s : Int} {b : Nat} (hb : bytesN t p s = b) (h : 0 < b) : ∃ g : Nat, pageN t p s = g ∧ 1024 ≤ g ∧ g ≤ 1048576 := by
  cases hr : rightB t p s
  · have := bytes_no hr; omega
  · obtain ⟨g, q, hg, _, _, _, _, g1, g2, _⟩ := right_nums hr
    exact ⟨g, hg, g1, g2⟩
theorem page_le (t p s : Int) : pageN t p s ≤ 1048576 := by
  cases hr : rightB t p s
  · rw [page_no hr]; omega
  · obtain ⟨g, q, hg, _, _, _, _, g1, g2, _⟩ := right_nums hr
    omega
theorem bytes_le (t p s : Int) : bytesN t p s ≤ 1073741824 := by
  cases hr : rightB t p s
  · rw [bytes_no hr]; omega
  · obtain ⟨g, q, _, _, hb, _, _, _, _, _, _, _, h⟩ := right_nums hr
    omega

theorem adAddress_c (i o : Int) (g : Nat) (w : World) :
    Calls Tryz.prog 119 #[.agg #[.int .i64 i, .int .i64 o], .int .i64 (g : Int)] w fun e w' => e = .returned (.int .i64 (addrW i o g)) ∧ Below w.heap.size w w' := by
  go_enter Tryz.func119, Tryz.ntmps119
  go_wp2
  go_ret
  refine ⟨ret_int ?_, ?_⟩
  · unfold addrW
    simp only [IntWalk.i64_left]
  · repeat (first | exact B0 _ | (with_reducible refine Bgo ?_ (by assumption)) | (with_reducible refine Bdrew ?_) | (with_reducible refine Bdraw ?_ _) | (with_reducible refine Bnew ?_ _) | (with_reducible refine Bput ?_ (by first | (simp; done) | (simp; omega)) _))

set_option maxHeartbeats 1600000 in
theorem adSpotOf_c (t p s a : Int) (h0 : -9223372036854775808 ≤ a) (h1 : a ≤ 9223372036854775807) (w : World) :
    Calls Tryz.prog 121 #[.agg #[.int .i64 t, .int .i64 p, .int .i64 s], .int .i64 a] w fun e w' => e = .returned (.tuple #[.agg #[.int .i64 (spotP t p s a), .int .i64 (spotO t p s a)], .bool (spotB t p s a)]) ∧ Below w.heap.size w w' := by
  obtain ⟨g, hg⟩ : ∃ g, pageN t p s = g := ⟨_, rfl⟩
  obtain ⟨b, hb⟩ : ∃ b, bytesN t p s = b := ⟨_, rfl⟩
  have hE := spot_eq t p s a g b hg hb
  have g2 := hg ▸ page_le t p s
  have b2 := hb ▸ bytes_le t p s
  have HG := hidp hg
  have HB := hidp hb
  have hc := (Held.new w 23 #[.int .i64 t, .int .i64 p, .int .i64 s]).alloc (.cells #[.int .i64 0, .int .i64 0] 111)
  have hz := Held.new2 w (.cells #[.int .i64 t, .int .i64 p, .int .i64 s] 23) 111 #[.int .i64 0, .int .i64 0]
  by_cases c1 : a < (g : Int)
  · have hN : spotB t p s a = false := by rw [hE, decide_eq_false_iff_not]; omega
    have HN := hidp hN
    have HZ := hidp (spot_no hN)
    clear hg hb hE hN
    go_enter Tryz.func121, Tryz.ntmps121
    go_wp2_with fail
    refine (cfPage_c t p s _).mono ?_
    rintro e w1 ⟨rfl, hb1⟩
    rw [HG.out]
    obtain ⟨z0, z1⟩ := (hz.keep hb1).two
    have f0 := (hz.keep hb1).thawed 0
    have f1 := (hz.keep hb1).thawed 1
    go_wp2
    refine bodyPost_ret (v := .tuple #[.agg #[.int .i64 0, .int .i64 0], .bool false]) (by simp [results, Tryz.results121, go_sem, z0, z1]) rfl ⟨?_, ?_⟩
    · rw [HN.out, HZ.out.1, HZ.out.2]
    repeat (first | exact B0 _ | (with_reducible refine Bgo ?_ (by assumption)) | (with_reducible refine Bdrew ?_) | (with_reducible refine Bdraw ?_ _) | (with_reducible refine Bnew ?_ _) | (with_reducible refine Bput ?_ (by first | (simp; done) | (simp; omega)) _))
  · by_cases c2 : a - (g : Int) < (b : Int)
    · have hY : spotB t p s a = true := by rw [hE, decide_eq_true_iff]; omega
      obtain ⟨g', hg', g1, _⟩ := bytes_pos hb (by omega)
      have g1 : 1024 ≤ g := by omega
      have hP : spotP t p s a = a / (g : Int) - 1 := by unfold spotP; rw [if_pos hY, hg]
      have hO : spotO t p s a = a % (g : Int) := by unfold spotO; rw [if_pos hY, hg]
      have hpp := spot_parts hY
      rw [hP, hO] at hpp
      obtain ⟨_, _, a1, a2, ⟨d1, d2⟩, o1, o2⟩ := hpp
      have q1 : a.tdiv (g : Int) = a / (g : Int) := Int.tdiv_eq_ediv_of_nonneg (by omega)
      have q2 : a.tmod (g : Int) = a % (g : Int) := Int.tmod_eq_emod_of_nonneg (by omega)
      obtain ⟨d, hd⟩ : ∃ d, a / (g : Int) = d := ⟨_, rfl⟩
      obtain ⟨m, hm⟩ : ∃ m, a % (g : Int) = m := ⟨_, rfl⟩
      rw [hd] at hP d1 d2 q1
      rw [hm] at hO o1 o2 q2
      have HY := hidp hY
      have HP := hidp hP
      have HO := hidp hO
      have g3 : ¬ g = 0 := by omega
      have g4 : ((g : Int) == 0) = false := by simp; omega
      clear hg hb hE hY hP hO hg' hd hm
      go_enter Tryz.func121, Tryz.ntmps121
      go_wp2_with fail
      refine (cfPage_c t p s _).mono ?_
      rintro e w1 ⟨rfl, hb1⟩
      rw [HG.out]
      have hc1 := hc.keep hb1
      obtain ⟨x0, x1, x2⟩ := hc1.three
      go_wp2_with fail
      refine (cfBytes_c t p s _).mono ?_
      rintro e w2 ⟨rfl, hb2⟩
      rw [HB.out]
      obtain ⟨z0, z1⟩ := ((hz.keep hb1).keep hb2).two
      have f0 := ((hz.keep hb1).keep hb2).thawed 0
      have f1 := ((hz.keep hb1).keep hb2).thawed 1
      go_wp2
      go_region
      go_wp2
      refine bodyPost_ret (v := .tuple #[.agg #[.int .i64 (d - 1), .int .i64 m], .bool true]) (by simp [results, Tryz.results121, go_sem, z0, z1]) rfl ⟨?_, ?_⟩
      · rw [HY.out, HP.out, HO.out]
      repeat (first | exact B0 _ | (with_reducible refine Bgo ?_ (by assumption)) | (with_reducible refine Bdrew ?_) | (with_reducible refine Bdraw ?_ _) | (with_reducible refine Bnew ?_ _) | (with_reducible refine Bput ?_ (by first | (simp; done) | (simp; omega)) _))
    · have hN : spotB t p s a = false := by rw [hE, decide_eq_false_iff_not]; omega
      have HN := hidp hN
      have HZ := hidp (spot_no hN)
      clear hg hb hE hN
      go_enter Tryz.func121, Tryz.ntmps121
      go_wp2_with fail
      refine (cfPage_c t p s _).mono ?_
      rintro e w1 ⟨rfl, hb1⟩
      rw [HG.out]
      have hc1 := hc.keep hb1
      obtain ⟨x0, x1, x2⟩ := hc1.three
      go_wp2_with fail
      refine (cfBytes_c t p s _).mono ?_
      rintro e w2 ⟨rfl, hb2⟩
      rw [HB.out]
      obtain ⟨z0, z1⟩ := ((hz.keep hb1).keep hb2).two
      have f0 := ((hz.keep hb1).keep hb2).thawed 0
      have f1 := ((hz.keep hb1).keep hb2).thawed 1
      go_wp2
      refine bodyPost_ret (v := .tuple #[.agg #[.int .i64 0, .int .i64 0], .bool false]) (by simp [results, Tryz.results121, go_sem, z0, z1]) rfl ⟨?_, ?_⟩
      · rw [HN.out, HZ.out.1, HZ.out.2]
      repeat (first | exact B0 _ | (with_reducible refine Bgo ?_ (by assumption)) | (with_reducible refine Bdrew ?_) | (with_reducible refine Bdraw ?_ _) | (with_reducible refine Bnew ?_ _) | (with_reducible refine Bput ?_ (by first | (simp; done) | (simp; omega)) _))

theorem addrW_range (i o : Int) (g : Nat) : -9223372036854775808 ≤ addrW i o g ∧ addrW i o g ≤ 9223372036854775807 := by
  unfold addrW
  generalize IntKind.i64.wrap (IntKind.i64.wrap (i + 1) * (g : Int)) + o = x
  simp only [IntKind.wrap, IntKind.bits, IntKind.signed]
  simp
  omega

set_option maxHeartbeats 1600000 in
theorem adOf_yes (t p s i o : Int) (h : addrB t p s i o = true) (w : World) :
    Calls Tryz.prog 99 #[.agg #[.int .i64 t, .int .i64 p, .int .i64 s], .int .i64 i, .int .i64 o] w fun e w' => e = .returned (.tuple #[.int .i64 (addrI t p s i o), .bool (addrB t p s i o)]) ∧ Below w.heap.size w w' := by
  obtain ⟨a, ha⟩ : ∃ a, addrI t p s i o = a := ⟨_, rfl⟩
  have hy := addr_yes h
  rw [ha] at hy
  have HY := hidp hy
  have HA := hidp ha
  have HB := hidp h
  obtain ⟨_, _, _, _, a1, a2⟩ := hy
  clear ha h
  have hc := (Held.new w 23 #[.int .i64 t, .int .i64 p, .int .i64 s]).alloc (.cells #[.int .i64 i, .int .i64 o] 111)
  have hz := Held.new2 w (.cells #[.int .i64 t, .int .i64 p, .int .i64 s] 23) 111 #[.int .i64 i, .int .i64 o]
  go_enter Tryz.func99, Tryz.ntmps99
  go_wp2_with fail
  have c3 := hc.three
  have c2 := hz.two
  go_region_held3 (fun w' => w'.cell? ⟨w.heap.size, 0, none⟩ = some (.int .i64 t) ∧ w'.cell? ⟨w.heap.size, 1, none⟩ = some (.int .i64 p) ∧ w'.cell? ⟨w.heap.size, 2, none⟩ = some (.int .i64 s) ∧ w'.cell? ⟨w.heap.size + 1, 0, none⟩ = some (.int .i64 i) ∧ w'.cell? ⟨w.heap.size + 1, 1, none⟩ = some (.int .i64 o))
    (first | exact ⟨c3.1, c3.2.1, c3.2.2, c2.1, c2.2⟩ | go_keep | exact ⟨hst _ _ (by assumption), hst _ _ (by assumption), hst _ _ (by assumption), hst _ _ (by assumption), hst _ _ (by assumption)⟩)
    (first
      | (go_at_call 120; refine (cfPage_c t p s _).mono ?_; rintro e w' ⟨rfl, hbl⟩; have hst := cells_stay hbl)
      | (go_at_call 119; refine (adAddress_c i o (pageN t p s) _).mono ?_; rintro e w'' ⟨rfl, hbl2⟩; rw [HY.out.1]; have hst := cells_stay hbl2))
  have hc2 := ((Held.drewN hc 1).keep hbl).keep hbl2
  have hz2 := ((Held.drewN hz 1).keep hbl).keep hbl2
  clear c3 c2
  have c3 := hc2.three
  go_wp2_with fail
  refine (adSpotOf_c t p s a (by omega) (by omega) _).mono ?_
  rintro e w3 ⟨rfl, hb3⟩
  rw [HY.out.2.1, HY.out.2.2.1, HY.out.2.2.2.1]
  have hz3 := hz2.keep hb3
  obtain ⟨y0, y1⟩ := (hz3.alloc (.cells #[.int .i64 i, .int .i64 o] 111)).two
  go_wp2
  go_ret2
  refine ⟨by rw [HA.out, HB.out]; rfl, ?_⟩
  change Below w.heap.size w _
  have hbl : Below ((w.alloc (.cells #[.int .i64 t, .int .i64 p, .int .i64 s] 23)).alloc (.cells #[.int .i64 i, .int .i64 o] 111)).heap.size ((w.alloc (.cells #[.int .i64 t, .int .i64 p, .int .i64 s] 23)).alloc (.cells #[.int .i64 i, .int .i64 o] 111)) w' := below_draws_left (n := 1) hbl
  repeat (first | exact B0 _ | (with_reducible refine Bgo ?_ (by assumption)) | (with_reducible refine Bdrew ?_) | (with_reducible refine Bdraw ?_ _) | (with_reducible refine Bnew ?_ _) | (with_reducible refine Bput ?_ (by first | (simp; done) | (simp; omega)) _))

set_option maxHeartbeats 1600000 in
theorem adOf_no (t p s i o : Int) (h : addrB t p s i o = false) (w : World) :
    Calls Tryz.prog 99 #[.agg #[.int .i64 t, .int .i64 p, .int .i64 s], .int .i64 i, .int .i64 o] w fun e w' => e = .returned (.tuple #[.int .i64 (addrI t p s i o), .bool (addrB t p s i o)]) ∧ Below w.heap.size w w' := by
  obtain ⟨a, ha⟩ : ∃ a, addrW i o (pageN t p s) = a := ⟨_, rfl⟩
  have hr := addrW_range i o (pageN t p s)
  rw [ha] at hr
  obtain ⟨a1, a2⟩ := hr
  have HW := hidp ha
  have HA := hidp (addrI_no h)
  have HB := hidp h
  have hc := (Held.new w 23 #[.int .i64 t, .int .i64 p, .int .i64 s]).alloc (.cells #[.int .i64 i, .int .i64 o] 111)
  have hz := Held.new2 w (.cells #[.int .i64 t, .int .i64 p, .int .i64 s] 23) 111 #[.int .i64 i, .int .i64 o]
  cases hs : spotB t p s a
  · obtain ⟨z1, z2⟩ := spot_no hs
    have HS := hidp hs
    have HP := hidp z1
    have HO := hidp z2
    clear ha h hs z1 z2
    go_enter Tryz.func99, Tryz.ntmps99
    go_wp2_with fail
    have c3 := hc.three
    have c2 := hz.two
    go_region_held3 (fun w' => w'.cell? ⟨w.heap.size, 0, none⟩ = some (.int .i64 t) ∧ w'.cell? ⟨w.heap.size, 1, none⟩ = some (.int .i64 p) ∧ w'.cell? ⟨w.heap.size, 2, none⟩ = some (.int .i64 s) ∧ w'.cell? ⟨w.heap.size + 1, 0, none⟩ = some (.int .i64 i) ∧ w'.cell? ⟨w.heap.size + 1, 1, none⟩ = some (.int .i64 o))
      (first | exact ⟨c3.1, c3.2.1, c3.2.2, c2.1, c2.2⟩ | go_keep | exact ⟨hst _ _ (by assumption), hst _ _ (by assumption), hst _ _ (by assumption), hst _ _ (by assumption), hst _ _ (by assumption)⟩)
      (first
        | (go_at_call 120; refine (cfPage_c t p s _).mono ?_; rintro e w' ⟨rfl, hbl⟩; have hst := cells_stay hbl)
        | (go_at_call 119; refine (adAddress_c i o (pageN t p s) _).mono ?_; rintro e w'' ⟨rfl, hbl2⟩; rw [HW.out]; have hst := cells_stay hbl2))
    have hc2 := ((Held.drewN hc 1).keep hbl).keep hbl2
    have hz2 := ((Held.drewN hz 1).keep hbl).keep hbl2
    clear c3 c2
    have c3 := hc2.three
    go_wp2_with fail
    refine (adSpotOf_c t p s a (by omega) (by omega) _).mono ?_
    rintro e w3 ⟨rfl, hb3⟩
    rw [HS.out, HP.out, HO.out]
    have hz3 := hz2.keep hb3
    obtain ⟨y0, y1⟩ := (hz3.alloc (.cells #[.int .i64 0, .int .i64 0] 111)).two
    go_wp2
    go_ret2
    refine ⟨by rw [HA.out, HB.out]; rfl, ?_⟩
    change Below w.heap.size w _
    have hbl : Below ((w.alloc (.cells #[.int .i64 t, .int .i64 p, .int .i64 s] 23)).alloc (.cells #[.int .i64 i, .int .i64 o] 111)).heap.size ((w.alloc (.cells #[.int .i64 t, .int .i64 p, .int .i64 s] 23)).alloc (.cells #[.int .i64 i, .int .i64 o] 111)) w' := below_draws_left (n := 1) hbl
    repeat (first | exact B0 _ | (with_reducible refine Bgo ?_ (by assumption)) | (with_reducible refine Bdrew ?_) | (with_reducible refine Bdraw ?_ _) | (with_reducible refine Bnew ?_ _) | (with_reducible refine Bput ?_ (by first | (simp; done) | (simp; omega)) _))
  · have hne := addr_no h hs
    obtain ⟨d, hd⟩ : ∃ d, spotP t p s a = d := ⟨_, rfl⟩
    obtain ⟨m, hm⟩ : ∃ m, spotO t p s a = m := ⟨_, rfl⟩
    rw [hd, hm] at hne
    have HS := hidp hs
    have HP := hidp hd
    have HO := hidp hm
    clear ha h hs hd hm
    by_cases hdi : d = i
    · subst hdi
      have hmo : ¬ m = o := fun h => hne ⟨rfl, h⟩
      have hmo2 : (m == o) = false := by simpa using hmo
      clear hne
      go_enter Tryz.func99, Tryz.ntmps99
      go_wp2_with fail
      have c3 := hc.three
      have c2 := hz.two
      go_region_held3 (fun w' => w'.cell? ⟨w.heap.size, 0, none⟩ = some (.int .i64 t) ∧ w'.cell? ⟨w.heap.size, 1, none⟩ = some (.int .i64 p) ∧ w'.cell? ⟨w.heap.size, 2, none⟩ = some (.int .i64 s) ∧ w'.cell? ⟨w.heap.size + 1, 0, none⟩ = some (.int .i64 d) ∧ w'.cell? ⟨w.heap.size + 1, 1, none⟩ = some (.int .i64 o))
        (first | exact ⟨c3.1, c3.2.1, c3.2.2, c2.1, c2.2⟩ | go_keep | exact ⟨hst _ _ (by assumption), hst _ _ (by assumption), hst _ _ (by assumption), hst _ _ (by assumption), hst _ _ (by assumption)⟩)
        (first
          | (go_at_call 120; refine (cfPage_c t p s _).mono ?_; rintro e w' ⟨rfl, hbl⟩; have hst := cells_stay hbl)
          | (go_at_call 119; refine (adAddress_c d o (pageN t p s) _).mono ?_; rintro e w'' ⟨rfl, hbl2⟩; rw [HW.out]; have hst := cells_stay hbl2))
      have hc2 := ((Held.drewN hc 1).keep hbl).keep hbl2
      have hz2 := ((Held.drewN hz 1).keep hbl).keep hbl2
      clear c3 c2
      have c3 := hc2.three
      go_wp2_with fail
      refine (adSpotOf_c t p s a (by omega) (by omega) _).mono ?_
      rintro e w3 ⟨rfl, hb3⟩
      rw [HS.out, HP.out, HO.out]
      have hz3 := hz2.keep hb3
      obtain ⟨y0, y1⟩ := (hz3.alloc (.cells #[.int .i64 d, .int .i64 m] 111)).two
      go_wp2
      go_ret2
      refine ⟨by rw [HA.out, HB.out]; rfl, ?_⟩
      change Below w.heap.size w _
      have hbl : Below ((w.alloc (.cells #[.int .i64 t, .int .i64 p, .int .i64 s] 23)).alloc (.cells #[.int .i64 d, .int .i64 o] 111)).heap.size ((w.alloc (.cells #[.int .i64 t, .int .i64 p, .int .i64 s] 23)).alloc (.cells #[.int .i64 d, .int .i64 o] 111)) w' := below_draws_left (n := 1) hbl
      repeat (first | exact B0 _ | (with_reducible refine Bgo ?_ (by assumption)) | (with_reducible refine Bdrew ?_) | (with_reducible refine Bdraw ?_ _) | (with_reducible refine Bnew ?_ _) | (with_reducible refine Bput ?_ (by first | (simp; done) | (simp; omega)) _))
    · have hdi2 : (d == i) = false := by simpa using hdi
      clear hne
      go_enter Tryz.func99, Tryz.ntmps99
      go_wp2_with fail
      have c3 := hc.three
      have c2 := hz.two
      go_region_held3 (fun w' => w'.cell? ⟨w.heap.size, 0, none⟩ = some (.int .i64 t) ∧ w'.cell? ⟨w.heap.size, 1, none⟩ = some (.int .i64 p) ∧ w'.cell? ⟨w.heap.size, 2, none⟩ = some (.int .i64 s) ∧ w'.cell? ⟨w.heap.size + 1, 0, none⟩ = some (.int .i64 i) ∧ w'.cell? ⟨w.heap.size + 1, 1, none⟩ = some (.int .i64 o))
        (first | exact ⟨c3.1, c3.2.1, c3.2.2, c2.1, c2.2⟩ | go_keep | exact ⟨hst _ _ (by assumption), hst _ _ (by assumption), hst _ _ (by assumption), hst _ _ (by assumption), hst _ _ (by assumption)⟩)
        (first
          | (go_at_call 120; refine (cfPage_c t p s _).mono ?_; rintro e w' ⟨rfl, hbl⟩; have hst := cells_stay hbl)
          | (go_at_call 119; refine (adAddress_c i o (pageN t p s) _).mono ?_; rintro e w'' ⟨rfl, hbl2⟩; rw [HW.out]; have hst := cells_stay hbl2))
      have hc2 := ((Held.drewN hc 1).keep hbl).keep hbl2
      have hz2 := ((Held.drewN hz 1).keep hbl).keep hbl2
      clear c3 c2
      have c3 := hc2.three
      go_wp2_with fail
      refine (adSpotOf_c t p s a (by omega) (by omega) _).mono ?_
      rintro e w3 ⟨rfl, hb3⟩
      rw [HS.out, HP.out, HO.out]
      have hz3 := hz2.keep hb3
      obtain ⟨y0, y1⟩ := (hz3.alloc (.cells #[.int .i64 d, .int .i64 m] 111)).two
      go_wp2
      go_ret2
      refine ⟨by rw [HA.out, HB.out]; rfl, ?_⟩
      change Below w.heap.size w _
      have hbl : Below ((w.alloc (.cells #[.int .i64 t, .int .i64 p, .int .i64 s] 23)).alloc (.cells #[.int .i64 i, .int .i64 o] 111)).heap.size ((w.alloc (.cells #[.int .i64 t, .int .i64 p, .int .i64 s] 23)).alloc (.cells #[.int .i64 i, .int .i64 o] 111)) w' := below_draws_left (n := 1) hbl
      repeat (first | exact B0 _ | (with_reducible refine Bgo ?_ (by assumption)) | (with_reducible refine Bdrew ?_) | (with_reducible refine Bdraw ?_ _) | (with_reducible refine Bnew ?_ _) | (with_reducible refine Bput ?_ (by first | (simp; done) | (simp; omega)) _))

theorem adOf_c (t p s i o : Int) (w : World) :
    Calls Tryz.prog 99 #[.agg #[.int .i64 t, .int .i64 p, .int .i64 s], .int .i64 i, .int .i64 o] w fun e w' => e = .returned (.tuple #[.int .i64 (addrI t p s i o), .bool (addrB t p s i o)]) ∧ Below w.heap.size w w' := by
  cases h : addrB t p s i o
  · exact h ▸ adOf_no t p s i o h w
  · exact h ▸ adOf_yes t p s i o h w

end Go.Proofs.YtbaofpdjfoaiiaaGreatDoor

/-
  Contracts of addr's pages, slots and numbers of pages.
-/
namespace Go.Proofs.YtbaofpdjfoaiiaaGreatDoor
open Go.ChangeShapes Go.WideShapes Go.ChangeAt Go.RowKit
set_option linter.unusedVariables false
set_option linter.unusedSimpArgs false

set_option maxHeartbeats 1600000 in
theorem adPage_c (t p s a : Int) (h0 : -9223372036854775808 ≤ a) (h1 : a ≤ 9223372036854775807) (w : World) :
    Calls Tryz.prog 111 #[.agg #[.int .i64 t, .int .i64 p, .int .i64 s], .int .i64 a] w fun e w' => e = .returned (.tuple #[.int .i64 (spotP t p s a), .int .i64 (spotO t p s a), .bool (spotB t p s a)]) ∧ Below w.heap.size w w' := by
  go_enter Tryz.func111, Tryz.ntmps111
  go_wp2_with fail
  refine (adSpotOf_c t p s a h0 h1 _).mono ?_
  rintro e w1 ⟨rfl, hb1⟩
  go_wp2
  go_region
  all_goals
    go_wp2
    refine bodyPost_ret (v := .tuple #[.int .i64 (spotP t p s a), .int .i64 (spotO t p s a), .bool (spotB t p s a)]) (by simp [results, Tryz.results111, go_sem]) rfl ⟨rfl, ?_⟩
    repeat (first | exact B0 _ | (with_reducible refine Bgo ?_ (by assumption)) | (with_reducible refine Bdrew ?_) | (with_reducible refine Bdraw ?_ _) | (with_reducible refine Bnew ?_ _) | (with_reducible refine Bput ?_ (by first | (simp; done) | (simp; omega)) _))

set_option maxHeartbeats 3200000 in
theorem adSlot_c (t p s k o : Int) (hk0 : -9223372036854775808 ≤ k) (hk1 : k ≤ 9223372036854775807) (ho0 : -9223372036854775808 ≤ o) (ho1 : o ≤ 9223372036854775807) (w : World) (hT : SlotsLaid w) :
    Calls Tryz.prog 112 #[.agg #[.int .i64 t, .int .i64 p, .int .i64 s], .int .i64 k, .int .i64 o] w fun e w' => e = .returned (.tuple #[.int .i64 (slotR t p s k o), .bool (slotB t p s k o)]) ∧ Below w.heap.size w w' := by
  have HT := hidp hT
  have hc := Held.new w 23 #[.int .i64 t, .int .i64 p, .int .i64 s]
  clear hT
  obtain ⟨z, hz⟩ : ∃ z, sizeN s k = z := ⟨_, rfl⟩
  obtain ⟨n, hn⟩ : ∃ n, slotI k = n := ⟨_, rfl⟩
  have hz2 := hz ▸ sizeN_le s k
  have hn2 := hn ▸ slotI_le k
  have hE : slotB t p s k o = (rightB t p s && decide (0 < z ∧ 0 ≤ o ∧ o % (z : Int) = 0 ∧ o / (z : Int) < (n : Int))) := by unfold slotB; rw [hz, hn]
  have HZ := hidp hz
  have HN := hidp hn
  cases hr : rightB t p s
  · have HK := hidp (check_no hr)
    have hB : slotB t p s k o = false := by rw [hE, hr]; rfl
    have HR := hidp (slotR_no hB)
    have HB := hidp hB
    clear hz hn hE hr hB
    go_enter Tryz.func112, Tryz.ntmps112
    go_wp2_with fail
    refine (clSize_c s k hk0 hk1 _ (HT.out.alloc _)).mono ?_
    rintro e w1 ⟨rfl, hb1⟩
    rw [HZ.out]
    have hc1 := hc.keep hb1
    have HT1 := hidp ((HT.out.alloc _).below hb1)
    have c3 := hc1.three
    go_wp2_with fail
    refine (cfCheck_c t p s _).mono ?_
    rintro e w2 ⟨rfl, hb2⟩
    rw [HK.out]
    go_wp2
    go_ret2
    refine ⟨by rw [HR.out, HB.out]; rfl, ?_⟩
    repeat (first | exact B0 _ | (with_reducible refine Bgo ?_ (by assumption)) | (with_reducible refine Bdrew ?_) | (with_reducible refine Bdraw ?_ _) | (with_reducible refine Bnew ?_ _) | (with_reducible refine Bput ?_ (by first | (simp; done) | (simp; omega)) _))
  · have HK := hidp (check_yes hr)
    rw [hr, Bool.true_and] at hE
    clear hr
    by_cases c1 : z = 0
    · have hB : slotB t p s k o = false := by rw [hE, decide_eq_false_iff_not]; omega
      have HR := hidp (slotR_no hB)
      have HB := hidp hB
      subst c1
      clear hz hn hE hB
      go_enter Tryz.func112, Tryz.ntmps112
      go_wp2_with fail
      refine (clSize_c s k hk0 hk1 _ (HT.out.alloc _)).mono ?_
      rintro e w1 ⟨rfl, hb1⟩
      rw [HZ.out]
      have hc1 := hc.keep hb1
      have HT1 := hidp ((HT.out.alloc _).below hb1)
      have c3 := hc1.three
      go_wp2_with fail
      refine (cfCheck_c t p s _).mono ?_
      rintro e w2 ⟨rfl, hb2⟩
      rw [HK.out]
      go_wp2
      go_ret2
      refine ⟨by rw [HR.out, HB.out]; rfl, ?_⟩
      repeat (first | exact B0 _ | (with_reducible refine Bgo ?_ (by assumption)) | (with_reducible refine Bdrew ?_) | (with_reducible refine Bdraw ?_ _) | (with_reducible refine Bnew ?_ _) | (with_reducible refine Bput ?_ (by first | (simp; done) | (simp; omega)) _))
    · have z1 : ((z : Int) == 0) = false := by simpa using c1
      by_cases c2 : o < 0
      · have hB : slotB t p s k o = false := by rw [hE, decide_eq_false_iff_not]; omega
        have HR := hidp (slotR_no hB)
        have HB := hidp hB
        clear hz hn hE hB
        go_enter Tryz.func112, Tryz.ntmps112
        go_wp2_with fail
        refine (clSize_c s k hk0 hk1 _ (HT.out.alloc _)).mono ?_
        rintro e w1 ⟨rfl, hb1⟩
        rw [HZ.out]
        have hc1 := hc.keep hb1
        have HT1 := hidp ((HT.out.alloc _).below hb1)
        have c3 := hc1.three
        go_wp2_with fail
        refine (cfCheck_c t p s _).mono ?_
        rintro e w2 ⟨rfl, hb2⟩
        rw [HK.out]
        go_wp2
        go_ret2
        refine ⟨by rw [HR.out, HB.out]; rfl, ?_⟩
        repeat (first | exact B0 _ | (with_reducible refine Bgo ?_ (by assumption)) | (with_reducible refine Bdrew ?_) | (with_reducible refine Bdraw ?_ _) | (with_reducible refine Bnew ?_ _) | (with_reducible refine Bput ?_ (by first | (simp; done) | (simp; omega)) _))
      · have q1 : o.tdiv (z : Int) = o / (z : Int) := Int.tdiv_eq_ediv_of_nonneg (by omega)
        have q2 : o.tmod (z : Int) = o % (z : Int) := Int.tmod_eq_emod_of_nonneg (by omega)
        have m0 := Int.emod_nonneg o (show (z : Int) ≠ 0 by omega)
        have m1 := Int.emod_lt_of_pos o (show (0 : Int) < z by omega)
        have d0 := Int.ediv_nonneg (a := o) (b := (z : Int)) (by omega) (by omega)
        have d1 : o / (z : Int) ≤ o := Int.ediv_le_self _ (by omega)
        have hRR : slotB t p s k o = true → slotR t p s k o = o / (z : Int) := fun h => by unfold slotR; rw [if_pos h, hz]
        obtain ⟨d, hd⟩ : ∃ d, o / (z : Int) = d := ⟨_, rfl⟩
        obtain ⟨m, hm⟩ : ∃ m, o % (z : Int) = m := ⟨_, rfl⟩
        rw [hd] at q1 d0 d1 hE hRR
        rw [hm] at q2 m0 m1 hE
        by_cases c3 : m = 0
        · have m3 : (m != 0) = false := by simpa using c3
          by_cases c4 : d < (n : Int)
          · have hB : slotB t p s k o = true := by rw [hE, decide_eq_true_iff]; omega
            have HR := hidp (hRR hB)
            have HB := hidp hB
            clear hz hn hE hB hRR hd hm
            go_enter Tryz.func112, Tryz.ntmps112
            go_wp2_with fail
            refine (clSize_c s k hk0 hk1 _ (HT.out.alloc _)).mono ?_
            rintro e w1 ⟨rfl, hb1⟩
            rw [HZ.out]
            have hc1 := hc.keep hb1
            have HT1 := hidp ((HT.out.alloc _).below hb1)
            have c3 := hc1.three
            go_wp2_with fail
            refine (cfCheck_c t p s _).mono ?_
            rintro e w2 ⟨rfl, hb2⟩
            rw [HK.out]
            have HT2 := hidp (HT1.out.below hb2)
            go_wp2_with fail
            refine (clSlots_c k hk0 hk1 _ HT2.out).mono ?_
            rintro e w3 ⟨rfl, rfl⟩
            rw [HN.out]
            go_wp2
            go_ret2
            refine ⟨by rw [HR.out, HB.out]; rfl, ?_⟩
            repeat (first | exact B0 _ | (with_reducible refine Bgo ?_ (by assumption)) | (with_reducible refine Bdrew ?_) | (with_reducible refine Bdraw ?_ _) | (with_reducible refine Bnew ?_ _) | (with_reducible refine Bput ?_ (by first | (simp; done) | (simp; omega)) _))
          · have hB : slotB t p s k o = false := by rw [hE, decide_eq_false_iff_not]; omega
            have HR := hidp (slotR_no hB)
            have HB := hidp hB
            clear hz hn hE hB hRR hd hm
            go_enter Tryz.func112, Tryz.ntmps112
            go_wp2_with fail
            refine (clSize_c s k hk0 hk1 _ (HT.out.alloc _)).mono ?_
            rintro e w1 ⟨rfl, hb1⟩
            rw [HZ.out]
            have hc1 := hc.keep hb1
            have HT1 := hidp ((HT.out.alloc _).below hb1)
            have c3 := hc1.three
            go_wp2_with fail
            refine (cfCheck_c t p s _).mono ?_
            rintro e w2 ⟨rfl, hb2⟩
            rw [HK.out]
            have HT2 := hidp (HT1.out.below hb2)
            go_wp2_with fail
            refine (clSlots_c k hk0 hk1 _ HT2.out).mono ?_
            rintro e w3 ⟨rfl, rfl⟩
            rw [HN.out]
            go_wp2
            go_ret2
            refine ⟨by rw [HR.out, HB.out]; rfl, ?_⟩
            repeat (first | exact B0 _ | (with_reducible refine Bgo ?_ (by assumption)) | (with_reducible refine Bdrew ?_) | (with_reducible refine Bdraw ?_ _) | (with_reducible refine Bnew ?_ _) | (with_reducible refine Bput ?_ (by first | (simp; done) | (simp; omega)) _))
        · have m3 : (m != 0) = true := by simpa using c3
          have hB : slotB t p s k o = false := by rw [hE, decide_eq_false_iff_not]; omega
          have HR := hidp (slotR_no hB)
          have HB := hidp hB
          clear hz hn hE hB hRR hd hm
          go_enter Tryz.func112, Tryz.ntmps112
          go_wp2_with fail
          refine (clSize_c s k hk0 hk1 _ (HT.out.alloc _)).mono ?_
          rintro e w1 ⟨rfl, hb1⟩
          rw [HZ.out]
          have hc1 := hc.keep hb1
          have HT1 := hidp ((HT.out.alloc _).below hb1)
          have c3 := hc1.three
          go_wp2_with fail
          refine (cfCheck_c t p s _).mono ?_
          rintro e w2 ⟨rfl, hb2⟩
          rw [HK.out]
          go_wp2
          go_ret2
          refine ⟨by rw [HR.out, HB.out]; rfl, ?_⟩
          repeat (first | exact B0 _ | (with_reducible refine Bgo ?_ (by assumption)) | (with_reducible refine Bdrew ?_) | (with_reducible refine Bdraw ?_ _) | (with_reducible refine Bnew ?_ _) | (with_reducible refine Bput ?_ (by first | (simp; done) | (simp; omega)) _))

end Go.Proofs.YtbaofpdjfoaiiaaGreatDoor

/-
  Contracts of the document's answers to addr (nacreref06).
-/
namespace Go.Proofs.YtbaofpdjfoaiiaaGreatDoor
open Go.ChangeShapes Go.WideShapes Go.ChangeAt Go.RowKit
set_option linter.unusedVariables false
set_option linter.unusedSimpArgs false

theorem addr_not {t p s i o : Int} (h : ¬ (rightB t p s = true ∧ (0 ≤ i ∧ i < p) ∧ 0 ≤ o ∧ o < (pageN t p s : Int))) : addrB t p s i o = false := by
  cases hb : addrB t p s i o
  · rfl
  · exact absurd (addr_parts hb) h
theorem spot_not {t p s a : Int} (h : ¬ ((pageN t p s : Int) ≤ a ∧ a - pageN t p s < (bytesN t p s : Int))) : spotB t p s a = false := by unfold spotB; rw [decide_eq_false_iff_not]; exact h

set_option maxHeartbeats 3200000 in
theorem r6Of_c (t p s i o : Int) (w : World) :
    Calls Tryz.prog 73 #[.agg #[.int .i64 t, .int .i64 p, .int .i64 s], .int .i64 i, .int .i64 o] w fun e w' => e = .returned (.tuple #[.int .i64 (addrI t p s i o), .bool (addrB t p s i o)]) ∧ Below w.heap.size w w' := by
  have hc := Held.new w 23 #[.int .i64 t, .int .i64 p, .int .i64 s]
  cases hr : rightB t p s
  · have HR := hidp hr
    have hB : addrB t p s i o = false := by unfold addrB; rw [hr]; rfl
    have HA := hidp (addrI_no hB)
    have HB := hidp hB
    clear hr hB
    go_enter Tryz.func73, Tryz.ntmps73
    go_wp2_with fail
    refine (r4Right_c t p s _).mono ?_
    rintro e w1 ⟨rfl, hb1⟩
    rw [HR.out]
    have hc1 := hc.keep hb1
    obtain ⟨x0, x1, x2⟩ := hc1.three
    go_wp2
    go_ret2
    refine ⟨by rw [HA.out, HB.out]; rfl, ?_⟩
    repeat (first | exact B0 _ | (with_reducible refine Bgo ?_ (by assumption)) | (with_reducible refine Bdrew ?_) | (with_reducible refine Bdraw ?_ _) | (with_reducible refine Bnew ?_ _) | (with_reducible refine Bput ?_ (by first | (simp; done) | (simp; omega)) _))
  · have HR := hidp hr
    obtain ⟨g, q, hg, rfl, hb, q1, q2, g1, g2, -, -, -, qg⟩ := right_nums hr
    by_cases c1 : i < 0
    · have hB := addr_not (t := t) (p := (q : Int)) (s := s) (i := i) (o := o) (by omega)
      have HA := hidp (addrI_no hB)
      have HB := hidp hB
      clear hr hg hb hB
      go_enter Tryz.func73, Tryz.ntmps73
      go_wp2_with fail
      refine (r4Right_c t q s _).mono ?_
      rintro e w1 ⟨rfl, hb1⟩
      rw [HR.out]
      have hc1 := hc.keep hb1
      obtain ⟨x0, x1, x2⟩ := hc1.three
      go_wp2
      go_ret2
      refine ⟨by rw [HA.out, HB.out]; rfl, ?_⟩
      repeat (first | exact B0 _ | (with_reducible refine Bgo ?_ (by assumption)) | (with_reducible refine Bdrew ?_) | (with_reducible refine Bdraw ?_ _) | (with_reducible refine Bnew ?_ _) | (with_reducible refine Bput ?_ (by first | (simp; done) | (simp; omega)) _))
    · by_cases c2 : (q : Int) ≤ i
      · have hB := addr_not (t := t) (p := (q : Int)) (s := s) (i := i) (o := o) (by omega)
        have HA := hidp (addrI_no hB)
        have HB := hidp hB
        clear hr hg hb hB
        go_enter Tryz.func73, Tryz.ntmps73
        go_wp2_with fail
        refine (r4Right_c t q s _).mono ?_
        rintro e w1 ⟨rfl, hb1⟩
        rw [HR.out]
        have hc1 := hc.keep hb1
        obtain ⟨x0, x1, x2⟩ := hc1.three
        go_wp2
        go_ret2
        refine ⟨by rw [HA.out, HB.out]; rfl, ?_⟩
        repeat (first | exact B0 _ | (with_reducible refine Bgo ?_ (by assumption)) | (with_reducible refine Bdrew ?_) | (with_reducible refine Bdraw ?_ _) | (with_reducible refine Bnew ?_ _) | (with_reducible refine Bput ?_ (by first | (simp; done) | (simp; omega)) _))
      · by_cases c3 : o < 0
        · have hB := addr_not (t := t) (p := (q : Int)) (s := s) (i := i) (o := o) (by omega)
          have HA := hidp (addrI_no hB)
          have HB := hidp hB
          clear hr hg hb hB
          go_enter Tryz.func73, Tryz.ntmps73
          go_wp2_with fail
          refine (r4Right_c t q s _).mono ?_
          rintro e w1 ⟨rfl, hb1⟩
          rw [HR.out]
          have hc1 := hc.keep hb1
          obtain ⟨x0, x1, x2⟩ := hc1.three
          go_wp2
          go_ret2
          refine ⟨by rw [HA.out, HB.out]; rfl, ?_⟩
          repeat (first | exact B0 _ | (with_reducible refine Bgo ?_ (by assumption)) | (with_reducible refine Bdrew ?_) | (with_reducible refine Bdraw ?_ _) | (with_reducible refine Bnew ?_ _) | (with_reducible refine Bput ?_ (by first | (simp; done) | (simp; omega)) _))
        · by_cases c4 : (g : Int) ≤ o
          · have hB := addr_not (t := t) (p := (q : Int)) (s := s) (i := i) (o := o) (by rw [hg]; omega)
            have HA := hidp (addrI_no hB)
            have HB := hidp hB
            have HG := hidp hg
            clear hr hg hb hB
            go_enter Tryz.func73, Tryz.ntmps73
            go_wp2_with fail
            refine (r4Right_c t q s _).mono ?_
            rintro e w1 ⟨rfl, hb1⟩
            rw [HR.out]
            have hc1 := hc.keep hb1
            obtain ⟨x0, x1, x2⟩ := hc1.three
            go_wp2_with fail
            refine (r4Page_c t q s _).mono ?_
            rintro e w2 ⟨rfl, hb2⟩
            rw [HG.out]
            clear x0 x1 x2
            obtain ⟨x0, x1, x2⟩ := (hc1.keep hb2).three
            go_wp2
            go_ret2
            refine ⟨by rw [HA.out, HB.out]; rfl, ?_⟩
            repeat (first | exact B0 _ | (with_reducible refine Bgo ?_ (by assumption)) | (with_reducible refine Bdrew ?_) | (with_reducible refine Bdraw ?_ _) | (with_reducible refine Bnew ?_ _) | (with_reducible refine Bput ?_ (by first | (simp; done) | (simp; omega)) _))
          · have hB : addrB t q s i o = true := by unfold addrB; rw [hr, hg, Bool.true_and, decide_eq_true_iff]; omega
            have hA : addrI t q s i o = (i + 1) * (g : Int) + o := by unfold addrI; rw [if_pos hB, hg]
            have hm := mul_bounds (i := i) (q := (q : Int)) (g := (g : Int)) (by omega) (by omega) (by omega)
            have hqg : ((q * g : Nat) : Int) = (q : Int) * (g : Int) := by push_cast; rfl
            rw [← hqg] at hm
            obtain ⟨y, hy⟩ : ∃ y, (i + 1) * (g : Int) = y := ⟨_, rfl⟩
            rw [hy] at hA hm
            obtain ⟨y1, y2⟩ := hm
            have y3 : y ≤ 1073741824 := by omega
            have HA := hidp hA
            have HB := hidp hB
            have HG := hidp hg
            clear hr hg hb hB hA hqg y2
            go_enter Tryz.func73, Tryz.ntmps73
            go_wp2_with fail
            refine (r4Right_c t q s _).mono ?_
            rintro e w1 ⟨rfl, hb1⟩
            rw [HR.out]
            have hc1 := hc.keep hb1
            obtain ⟨x0, x1, x2⟩ := hc1.three
            go_wp2_with fail
            refine (r4Page_c t q s _).mono ?_
            rintro e w2 ⟨rfl, hb2⟩
            rw [HG.out]
            clear x0 x1 x2
            obtain ⟨x0, x1, x2⟩ := (hc1.keep hb2).three
            go_wp2_with fail
            refine (r4Page_c t q s _).mono ?_
            rintro e w3 ⟨rfl, hb3⟩
            rw [HG.out]
            go_wp2
            go_ret2
            refine ⟨by rw [HA.out, HB.out]; rfl, ?_⟩
            repeat (first | exact B0 _ | (with_reducible refine Bgo ?_ (by assumption)) | (with_reducible refine Bdrew ?_) | (with_reducible refine Bdraw ?_ _) | (with_reducible refine Bnew ?_ _) | (with_reducible refine Bput ?_ (by first | (simp; done) | (simp; omega)) _))

/-- the page that is reckoned, of a right configuration -/
theorem page_quot {t p s a : Int} (hr : rightB t p s = true) (ha : 0 ≤ a) (ha1 : a ≤ 9223372036854775807) : ∃ (g q : Nat) (d m : Int), pageN t p s = g ∧ p = q ∧ a.tdiv (g : Int) = d ∧ a.tmod (g : Int) = m ∧ 0 ≤ d ∧ d ≤ a ∧ 0 ≤ m ∧ m < (g : Int) ∧ 1024 ≤ g ∧ g ≤ 1048576 ∧ 4 ≤ q ∧ q ≤ 1024 ∧
    spotB t p s a = decide (1 ≤ d ∧ d ≤ (q : Int)) ∧ (spotB t p s a = true → spotP t p s a = d - 1 ∧ spotO t p s a = m) := by
  obtain ⟨g, q, hg, rfl, hb, q1, q2, g1, g2, -, -, -, qg⟩ := right_nums hr
  refine ⟨g, q, a / (g : Int), a % (g : Int), hg, rfl, Int.tdiv_eq_ediv_of_nonneg (by omega), Int.tmod_eq_emod_of_nonneg (by omega), Int.ediv_nonneg (by omega) (by omega), Int.ediv_le_self _ (by omega),
    Int.emod_nonneg _ (by omega), Int.emod_lt_of_pos _ (by omega), g1, g2, q1, q2, ?_, fun h => ⟨by unfold spotP; rw [if_pos h, hg], by unfold spotO; rw [if_pos h, hg]⟩⟩
  have hqg : ((q * g : Nat) : Int) = (q : Int) * (g : Int) := by push_cast; rfl
  unfold spotB
  rw [hg, hb, hqg, decide_eq_decide]
  have e1 : 1 ≤ a / (g : Int) ↔ (g : Int) ≤ a := by rw [Int.le_ediv_iff_mul_le (by omega)]; omega
  have e2 : a / (g : Int) < (q : Int) + 1 ↔ a < ((q : Int) + 1) * g := Int.ediv_lt_iff_lt_mul (by omega)
  rw [Int.add_mul] at e2
  omega

end Go.Proofs.YtbaofpdjfoaiiaaGreatDoor

/-
  Contracts of the document's answers to addr (nacreref06): slots, and how many pages.
-/
namespace Go.Proofs.YtbaofpdjfoaiiaaGreatDoor
open Go.ChangeShapes Go.WideShapes Go.ChangeAt Go.RowKit
set_option linter.unusedVariables false
set_option linter.unusedSimpArgs false

set_option maxHeartbeats 1600000 in
theorem r6At_c (t p s k i j : Int) (hk0 : -9223372036854775808 ≤ k) (hk1 : k ≤ 9223372036854775807) (w : World) :
    Calls Tryz.prog 104 #[.agg #[.int .i64 t, .int .i64 p, .int .i64 s], .int .i64 k, .int .i64 i, .int .i64 j] w fun e w' => e = .returned (.tuple #[.int .i64 (atI t p s k i j), .bool (atB t p s k i j)]) ∧ Below w.heap.size w w' := by
  have hc := Held.new w 23 #[.int .i64 t, .int .i64 p, .int .i64 s]
  obtain ⟨n, hn⟩ : ∃ n, slotI k = n := ⟨_, rfl⟩
  have hn2 := hn ▸ slotI_le k
  have HN := hidp hn
  by_cases c1 : j < 0
  · have HB := hidp (at_out (t := t) (p := p) (s := s) (k := k) (i := i) (j := j) (by omega))
    clear hn
    go_enter Tryz.func104, Tryz.ntmps104
    go_wp2
    go_ret2
    refine ⟨by rw [HB.out.1, HB.out.2]; rfl, ?_⟩
    repeat (first | exact B0 _ | (with_reducible refine Bgo ?_ (by assumption)) | (with_reducible refine Bdrew ?_) | (with_reducible refine Bdraw ?_ _) | (with_reducible refine Bnew ?_ _) | (with_reducible refine Bput ?_ (by first | (simp; done) | (simp; omega)) _))
  · by_cases c2 : j < (n : Int)
    · obtain ⟨z, hz⟩ : ∃ z, sizeN s k = z := ⟨_, rfl⟩
      have hz2 := hz ▸ sizeN_le s k
      have h3 : j * (z : Int) ≤ 32 * 1048576 := Int.mul_le_mul (by omega) (by omega) (by omega) (by omega)
      have h4 : 0 ≤ j * (z : Int) := Int.mul_nonneg (by omega) (by omega)
      have hA := at_in (t := t) (p := p) (s := s) (k := k) (i := i) (j := j) (by omega)
      rw [hz] at hA
      obtain ⟨y, hy⟩ : ∃ y, j * (z : Int) = y := ⟨_, rfl⟩
      rw [hy] at h3 h4 hA
      have HA := hidp hA
      have HY := hidp hy
      have HZ := hidp hz
      have HWR := hidp (i64_same (x := y) (by omega) (by omega))
      clear hz hy hA hn
      go_enter Tryz.func104, Tryz.ntmps104
      go_wp2_with fail
      refine (r5Slots_c k hk0 hk1 _).mono ?_
      rintro e w1 ⟨rfl, rfl⟩
      rw [HN.out]
      have c3 := hc.three
      go_wp2_with fail
      go_region_held3 (fun w' => w'.cell? ⟨w.heap.size, 0, none⟩ = some (.int .i64 t) ∧ w'.cell? ⟨w.heap.size, 1, none⟩ = some (.int .i64 p) ∧ w'.cell? ⟨w.heap.size, 2, none⟩ = some (.int .i64 s))
        (first | exact ⟨c3.1, c3.2.1, c3.2.2⟩ | go_keep | exact ⟨hst _ _ (by assumption), hst _ _ (by assumption), hst _ _ (by assumption)⟩)
        (first
          | (go_at_call 103; refine (r5Size_c s k hk0 hk1 _).mono ?_; rintro e w' ⟨rfl, hbl⟩; rw [HZ.out]; have hst := cells_stay hbl)
          | (go_at_call 73; rw [HY.out, HWR.out]; refine (r6Of_c t p s i y _).mono ?_; rintro e w'' ⟨rfl, hbl2⟩; have hst := cells_stay hbl2))
      go_wp2
      go_ret2
      refine ⟨by rw [HA.out.1, HA.out.2]; rfl, ?_⟩
      repeat (first | exact B0 _ | (with_reducible refine Bgo ?_ (by assumption)) | (with_reducible refine Bdrew ?_) | (with_reducible refine Bdraw ?_ _) | (with_reducible refine Bnew ?_ _) | (with_reducible refine Bput ?_ (by first | (simp; done) | (simp; omega)) _))
    · have HB := hidp (at_out (t := t) (p := p) (s := s) (k := k) (i := i) (j := j) (by omega))
      clear hn
      go_enter Tryz.func104, Tryz.ntmps104
      go_wp2_with fail
      refine (r5Slots_c k hk0 hk1 _).mono ?_
      rintro e w1 ⟨rfl, rfl⟩
      rw [HN.out]
      go_wp2
      go_ret2
      refine ⟨by rw [HB.out.1, HB.out.2]; rfl, ?_⟩
      repeat (first | exact B0 _ | (with_reducible refine Bgo ?_ (by assumption)) | (with_reducible refine Bdrew ?_) | (with_reducible refine Bdraw ?_ _) | (with_reducible refine Bnew ?_ _) | (with_reducible refine Bput ?_ (by first | (simp; done) | (simp; omega)) _))

end Go.Proofs.YtbaofpdjfoaiiaaGreatDoor
