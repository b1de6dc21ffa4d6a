/-
  Contracts of class's and nacreref05's slots and sizes.
-/
import Derived.Test.YtkbjckhbllmclaaGreatDoorT02
import Derived.Test.YtkbjckhbllmclaaGreatDoorT01
import Derived.RegionTactic
import Derived.ChangeAlike
import Derived.BigQuiet
import Derived.Test.YtkbjckhbllmclaaGreatDoorKit
import Derived.Deep.RegionHeld3
import Derived.Deep.DeepFit
import Derived.Maps.OwnSet
import Derived.Maps.RangeWalk
namespace Go.Proofs.YtkbjckhbllmclaaGreatDoor
open Go.ChangeShapes Go.WideShapes Go.ChangeAt Go.RowKit
set_option linter.unusedVariables false
set_option linter.unusedSimpArgs false
section
def SlotsLaid (w : World) : Prop := ∀ k : Nat, k < 9 → w.cell? ⟨0, k, none⟩ = some (.int .i64 ((slotN k : Nat) : Int))
theorem SlotsLaid.below {w w' : World} (h : SlotsLaid w) (hb : Below w.heap.size w w') : SlotsLaid w' := fun k hk => cells_stay hb _ _ (h k hk)
theorem SlotsLaid.alloc {w : World} (h : SlotsLaid w) (o : Obj) : SlotsLaid (w.alloc o) := h.below (Bnew (B0 _) _)
theorem SlotsLaid.drewN {w : World} (h : SlotsLaid w) (n : Nat) : SlotsLaid (w.drewN n) := h.below (Bdraw (B0 _) _)
theorem SlotsLaid.drew {w : World} (h : SlotsLaid w) : SlotsLaid w.drew := h.below (Bdrew (B0 _))

theorem clSlots_c (k : Int) (h0 : -9223372036854775808 ≤ k) (h1 : k ≤ 9223372036854775807) (w : World) (hT : SlotsLaid w) :
    Calls Tryz.prog 27 #[.int .i64 k] w fun e w' => e = .returned (.int .i64 ((slotI k : Nat) : Int)) ∧ w = w' := by
  by_cases a : k < 0
  · have E := hidp (slotI_out (.inl a))
    go_enter Tryz.func27, Tryz.ntmps27
    go_wp2
    go_ret
    exact ⟨by rw [E.out]; rfl, rfl⟩
  by_cases b : 9 ≤ k
  · have E := hidp (slotI_out (.inr b))
    go_enter Tryz.func27, Tryz.ntmps27
    go_wp2
    go_ret
    exact ⟨by rw [E.out]; rfl, rfl⟩
  · obtain ⟨k, rfl⟩ : ∃ n : Nat, k = n := ⟨k.toNat, by omega⟩
    have E := hidp (slotI_nat k)
    have hk : k < 9 := by omega
    have hc := hT k hk
    have HT := hidp hT
    clear hT
    go_enter Tryz.func27, Tryz.ntmps27
    go_wp2
    go_ret
    exact ⟨by rw [E.out]; rfl, rfl⟩

theorem r5Slots_c (k : Int) (h0 : -9223372036854775808 ≤ k) (h1 : k ≤ 9223372036854775807) (w : World) :
    Calls Tryz.prog 26 #[.int .i64 k] w fun e w' => e = .returned (.int .i64 ((slotI k : Nat) : Int)) ∧ w = w' := by
  by_cases a : 0 ≤ k ∧ k < 9
  · obtain ⟨k, rfl⟩ : ∃ n : Nat, k = n := ⟨k.toNat, by omega⟩
    have hk : k < 9 := by omega
    clear a h0 h1
    match k, hk with
    | 0, _ | 1, _ | 2, _ | 3, _ | 4, _ | 5, _ | 6, _ | 7, _ | 8, _ =>
      go_enter Tryz.func26, Tryz.ntmps26
      go_wp2
      go_ret
      exact ⟨rfl, rfl⟩
  · have E := hidp (slotI_out (k := k) (by omega))
    have e0 : (k == 0) = false := by simp; omega
    have e1 : (k == 1) = false := by simp; omega
    have e2 : (k == 2) = false := by simp; omega
    have e3 : (k == 3) = false := by simp; omega
    have e4 : (k == 4) = false := by simp; omega
    have e5 : (k == 5) = false := by simp; omega
    have e6 : (k == 6) = false := by simp; omega
    have e7 : (k == 7) = false := by simp; omega
    have e8 : (k == 8) = false := by simp; omega
    go_enter Tryz.func26, Tryz.ntmps26
    go_wp2
    go_ret
    exact ⟨by rw [E.out]; rfl, rfl⟩

theorem clpage_c (s : Int) (w : World) :
    Calls Tryz.prog 32 #[.int .i64 s] w fun e w' => e = .returned (.int .i64 ((pageS s : Nat) : Int)) ∧ Below w.heap.size w w' := by
  go_enter Tryz.func32, Tryz.ntmps32
  go_wp2_with fail
  refine (cfPage_c 1 4 s _).mono ?_
  rintro e w1 ⟨rfl, hb1⟩
  go_wp2
  go_ret
  exact ⟨rfl, Bgo (B0 _) hb1⟩

theorem clSize_c (s k : Int) (h0 : -9223372036854775808 ≤ k) (h1 : k ≤ 9223372036854775807) (w : World) (hT : SlotsLaid w) :
    Calls Tryz.prog 22 #[.int .i64 s, .int .i64 k] w fun e w' => e = .returned (.int .i64 ((sizeN s k : Nat) : Int)) ∧ Below w.heap.size w w' := by
  obtain ⟨n, hn⟩ : ∃ n, slotI k = n := ⟨_, rfl⟩
  obtain ⟨p, hp⟩ : ∃ p, pageS s = p := ⟨_, rfl⟩
  have hn1 : n ≤ 32 := hn ▸ slotI_le k
  have hp1 : p ≤ 1048576 := hp ▸ pageS_le s
  have E : sizeN s k = p / n - p / n % 16 := by unfold sizeN; rw [hn, hp]
  have HN := hidp hn
  have HP := hidp hp
  have HE := hidp E
  clear hn hp E
  by_cases hz : n = 0
  · subst hz
    go_enter Tryz.func22, Tryz.ntmps22
    go_wp2_with fail
    refine (clSlots_c k h0 h1 _ hT).mono ?_
    rintro e w1 ⟨rfl, rfl⟩
    rw [HN.out]
    go_wp2
    go_ret
    exact ⟨by rw [HE.out]; simp, B0 _⟩
  · have hq : ((p : Int).tdiv n) = ((p / n : Nat) : Int) := by rw [Int.tdiv_eq_ediv_of_nonneg (by omega)]; norm_cast
    have hq1 : p / n ≤ 1048576 := Nat.le_trans (Nat.div_le_self _ _) hp1
    obtain ⟨q, hqq⟩ : ∃ q, p / n = q := ⟨_, rfl⟩
    rw [hqq] at hq hq1
    have HQ := hidp hqq
    clear hqq
    go_enter Tryz.func22, Tryz.ntmps22
    go_wp2_with fail
    refine (clSlots_c k h0 h1 _ hT).mono ?_
    rintro e w1 ⟨rfl, rfl⟩
    rw [HN.out]
    go_wp2_with fail
    refine (clpage_c s _).mono ?_
    rintro e w2 ⟨rfl, hb2⟩
    rw [HP.out]
    go_wp2
    go_ret
    refine ⟨?_, hb2⟩
    rw [HE.out, HQ.out]
    refine ret_int ?_
    omega

theorem r5Size_c (s k : Int) (h0 : -9223372036854775808 ≤ k) (h1 : k ≤ 9223372036854775807) (w : World) :
    Calls Tryz.prog 16 #[.int .i64 s, .int .i64 k] w fun e w' => e = .returned (.int .i64 ((sizeN s k : Nat) : Int)) ∧ Below w.heap.size w w' := by
  obtain ⟨n, hn⟩ : ∃ n, slotI k = n := ⟨_, rfl⟩
  obtain ⟨p, hp⟩ : ∃ p, pageS s = p := ⟨_, rfl⟩
  have hn1 : n ≤ 32 := hn ▸ slotI_le k
  have hp1 : p ≤ 1048576 := hp ▸ pageS_le s
  have E : sizeN s k = p / n - p / n % 16 := by unfold sizeN; rw [hn, hp]
  have HN := hidp hn
  have HP := hidp (show pageN 1 4 s = p from hp)
  have HE := hidp E
  clear hn hp E
  by_cases hz : n = 0 ∨ p = 0
  · have hE : p / n - p / n % 16 = 0 := by rcases hz with rfl | rfl <;> simp
    have HE2 := hidp (HE.out.trans hE)
    clear hE
    rcases hz with rfl | rfl
    · go_enter Tryz.func16, Tryz.ntmps16
      go_wp2_with fail
      refine (r4Page_c 1 4 s _).mono ?_
      rintro e w2 ⟨rfl, hb2⟩
      rw [HP.out]
      go_wp2_with fail
      refine (r5Slots_c k h0 h1 _).mono ?_
      rintro e w1 ⟨rfl, rfl⟩
      rw [HN.out]
      go_wp2
      go_ret
      exact ⟨by rw [HE2.out]; rfl, hb2⟩
    · have hn0 : ¬ n = 0 ∨ n = 0 := by omega
      rcases hn0 with hn0 | rfl
      all_goals
        go_enter Tryz.func16, Tryz.ntmps16
        go_wp2_with fail
        refine (r4Page_c 1 4 s _).mono ?_
        rintro e w2 ⟨rfl, hb2⟩
        rw [HP.out]
        go_wp2_with fail
        refine (r5Slots_c k h0 h1 _).mono ?_
        rintro e w1 ⟨rfl, rfl⟩
        rw [HN.out]
        go_wp2
        go_ret
        exact ⟨by rw [HE2.out]; rfl, hb2⟩
  · have hq : ((p : Int).tdiv n) = ((p / n : Nat) : Int) := by rw [Int.tdiv_eq_ediv_of_nonneg (by omega)]; norm_cast
    have hq1 : p / n ≤ 1048576 := Nat.le_trans (Nat.div_le_self _ _) hp1
    obtain ⟨q, hqq⟩ : ∃ q, p / n = q := ⟨_, rfl⟩
    rw [hqq] at hq hq1
    have HQ := hidp hqq
    have hn2 : ¬ n = 0 := by omega
    have hp2 : ¬ p = 0 := by omega
    have hn3 : ((n : Int) == 0) = false := by simpa using hn2
    have hp3 : ((p : Int) == 0) = false := by simpa using hp2
    clear hqq hz
    go_enter Tryz.func16, Tryz.ntmps16
    go_wp2_with fail
    refine (r4Page_c 1 4 s _).mono ?_
    rintro e w2 ⟨rfl, hb2⟩
    rw [HP.out]
    go_wp2_with fail
    refine (r5Slots_c k h0 h1 _).mono ?_
    rintro e w1 ⟨rfl, rfl⟩
    rw [HN.out]
    go_wp2
    go_ret
    refine ⟨?_, hb2⟩
    rw [HE.out, HQ.out]
    refine ret_int ?_
    omega
end
section
theorem spot_eq (t p s a : Int) (g b : Nat) (hg : pageN t p s = g) (hb : bytesN t p s = b) : spotB t p s a = decide ((g : Int) ≤ a ∧ a - g < (b : Int)) := by unfold spotB; rw [hg, hb]
theorem bytes_pos {t p s : Int} {b : Nat} (hb : bytesN t p s = b) (h : 0 < b) : ∃ g : Nat, pageN t p s = g ∧ 1024 ≤ g ∧ g ≤ 1048576 := by
  cases hr : rightB t p s
  · have := bytes_no hr; omega
  · obtain ⟨g, q, hg, _, _, _, _, g1, g2, _⟩ := right_nums hr
    exact ⟨g, hg, g1, g2⟩
theorem page_le (t p s : Int) : pageN t p s ≤ 1048576 := by
  cases hr : rightB t p s
  · rw [page_no hr]; omega
  · obtain ⟨g, q, hg, _, _, _, _, g1, g2, _⟩ := right_nums hr
    omega
theorem bytes_le (t p s : Int) : bytesN t p s ≤ 1073741824 := by
  cases hr : rightB t p s
  · rw [bytes_no hr]; omega
  · obtain ⟨g, q, _, _, hb, _, _, _, _, _, _, _, h⟩ := right_nums hr
    omega

theorem adAddress_c (i o : Int) (g : Nat) (w : World) :
    Calls Tryz.prog 92 #[.agg #[.int .i64 i, .int .i64 o], .int .i64 (g : Int)] w fun e w' => e = .returned (.int .i64 (addrW i o g)) ∧ Below w.heap.size w w' := by
  go_enter Tryz.func92, Tryz.ntmps92
  go_wp2
  go_ret
  refine ⟨ret_int ?_, ?_⟩
  · unfold addrW
    simp only [IntWalk.i64_left]
  · repeat (first | exact B0 _ | (with_reducible refine Bgo ?_ (by assumption)) | (with_reducible refine Bdrew ?_) | (with_reducible refine Bdraw ?_ _) | (with_reducible refine Bnew ?_ _) | (with_reducible refine Bput ?_ (by first | (simp; done) | (simp; omega)) _))

set_option maxHeartbeats 1600000 in
theorem adSpotOf_c (t p s a : Int) (h0 : -9223372036854775808 ≤ a) (h1 : a ≤ 9223372036854775807) (w : World) :
    Calls Tryz.prog 93 #[.agg #[.int .i64 t, .int .i64 p, .int .i64 s], .int .i64 a] w fun e w' => e = .returned (.tuple #[.agg #[.int .i64 (spotP t p s a), .int .i64 (spotO t p s a)], .bool (spotB t p s a)]) ∧ Below w.heap.size w w' := by
  obtain ⟨g, hg⟩ : ∃ g, pageN t p s = g := ⟨_, rfl⟩
  obtain ⟨b, hb⟩ : ∃ b, bytesN t p s = b := ⟨_, rfl⟩
  have hE := spot_eq t p s a g b hg hb
  have g2 := hg ▸ page_le t p s
  have b2 := hb ▸ bytes_le t p s
  have HG := hidp hg
  have HB := hidp hb
  have hc := (Held.new w 23 #[.int .i64 t, .int .i64 p, .int .i64 s]).alloc (.cells #[.int .i64 0, .int .i64 0] 102)
  have hz := Held.new2 w (.cells #[.int .i64 t, .int .i64 p, .int .i64 s] 23) 102 #[.int .i64 0, .int .i64 0]
  by_cases c1 : a < (g : Int)
  · have hN : spotB t p s a = false := by rw [hE, decide_eq_false_iff_not]; omega
    have HN := hidp hN
    have HZ := hidp (spot_no hN)
    clear hg hb hE hN
    go_enter Tryz.func93, Tryz.ntmps93
    go_wp2_with fail
    refine (cfPage_c t p s _).mono ?_
    rintro e w1 ⟨rfl, hb1⟩
    rw [HG.out]
    obtain ⟨z0, z1⟩ := (hz.keep hb1).two
    have f0 := (hz.keep hb1).thawed 0
    have f1 := (hz.keep hb1).thawed 1
    go_wp2
    refine bodyPost_ret (v := .tuple #[.agg #[.int .i64 0, .int .i64 0], .bool false]) (by simp [results, Tryz.results93, go_sem, z0, z1]) rfl ⟨?_, ?_⟩
    · rw [HN.out, HZ.out.1, HZ.out.2]
    repeat (first | exact B0 _ | (with_reducible refine Bgo ?_ (by assumption)) | (with_reducible refine Bdrew ?_) | (with_reducible refine Bdraw ?_ _) | (with_reducible refine Bnew ?_ _) | (with_reducible refine Bput ?_ (by first | (simp; done) | (simp; omega)) _))
  · by_cases c2 : a - (g : Int) < (b : Int)
    · have hY : spotB t p s a = true := by rw [hE, decide_eq_true_iff]; omega
      obtain ⟨g', hg', g1, _⟩ := bytes_pos hb (by omega)
      have g1 : 1024 ≤ g := by omega
      have hP : spotP t p s a = a / (g : Int) - 1 := by unfold spotP; rw [if_pos hY, hg]
      have hO : spotO t p s a = a % (g : Int) := by unfold spotO; rw [if_pos hY, hg]
      have hpp := spot_parts hY
      rw [hP, hO] at hpp
      obtain ⟨_, _, a1, a2, ⟨d1, d2⟩, o1, o2⟩ := hpp
      have q1 : a.tdiv (g : Int) = a / (g : Int) := Int.tdiv_eq_ediv_of_nonneg (by omega)
      have q2 : a.tmod (g : Int) = a % (g : Int) := Int.tmod_eq_emod_of_nonneg (by omega)
      obtain ⟨d, hd⟩ : ∃ d, a / (g : Int) = d := ⟨_, rfl⟩
      obtain ⟨m, hm⟩ : ∃ m, a % (g : Int) = m := ⟨_, rfl⟩
      rw [hd] at hP d1 d2 q1
      rw [hm] at hO o1 o2 q2
      have HY := hidp hY
      have HP := hidp hP
      have HO := hidp hO
      have g3 : ¬ g = 0 := by omega
      have g4 : ((g : Int) == 0) = false := by simp; omega
      clear hg hb hE hY hP hO hg' hd hm
      go_enter Tryz.func93, Tryz.ntmps93
      go_wp2_with fail
      refine (cfPage_c t p s _).mono ?_
      rintro e w1 ⟨rfl, hb1⟩
      rw [HG.out]
      have hc1 := hc.keep hb1
      obtain ⟨x0, x1, x2⟩ := hc1.three
      go_wp2_with fail
      refine (cfBytes_c t p s _).mono ?_
      rintro e w2 ⟨rfl, hb2⟩
      rw [HB.out]
      obtain ⟨z0, z1⟩ := ((hz.keep hb1).keep hb2).two
      have f0 := ((hz.keep hb1).keep hb2).thawed 0
      have f1 := ((hz.keep hb1).keep hb2).thawed 1
      go_wp2
      go_region
      go_wp2
      refine bodyPost_ret (v := .tuple #[.agg #[.int .i64 (d - 1), .int .i64 m], .bool true]) (by simp [results, Tryz.results93, go_sem, z0, z1]) rfl ⟨?_, ?_⟩
      · rw [HY.out, HP.out, HO.out]
      repeat (first | exact B0 _ | (with_reducible refine Bgo ?_ (by assumption)) | (with_reducible refine Bdrew ?_) | (with_reducible refine Bdraw ?_ _) | (with_reducible refine Bnew ?_ _) | (with_reducible refine Bput ?_ (by first | (simp; done) | (simp; omega)) _))
    · have hN : spotB t p s a = false := by rw [hE, decide_eq_false_iff_not]; omega
      have HN := hidp hN
      have HZ := hidp (spot_no hN)
      clear hg hb hE hN
      go_enter Tryz.func93, Tryz.ntmps93
      go_wp2_with fail
      refine (cfPage_c t p s _).mono ?_
      rintro e w1 ⟨rfl, hb1⟩
      rw [HG.out]
      have hc1 := hc.keep hb1
      obtain ⟨x0, x1, x2⟩ := hc1.three
      go_wp2_with fail
      refine (cfBytes_c t p s _).mono ?_
      rintro e w2 ⟨rfl, hb2⟩
      rw [HB.out]
      obtain ⟨z0, z1⟩ := ((hz.keep hb1).keep hb2).two
      have f0 := ((hz.keep hb1).keep hb2).thawed 0
      have f1 := ((hz.keep hb1).keep hb2).thawed 1
      go_wp2
      refine bodyPost_ret (v := .tuple #[.agg #[.int .i64 0, .int .i64 0], .bool false]) (by simp [results, Tryz.results93, go_sem, z0, z1]) rfl ⟨?_, ?_⟩
      · rw [HN.out, HZ.out.1, HZ.out.2]
      repeat (first | exact B0 _ | (with_reducible refine Bgo ?_ (by assumption)) | (with_reducible refine Bdrew ?_) | (with_reducible refine Bdraw ?_ _) | (with_reducible refine Bnew ?_ _) | (with_reducible refine Bput ?_ (by first | (simp; done) | (simp; omega)) _))

theorem addrW_range (i o : Int) (g : Nat) : -9223372036854775808 ≤ addrW i o g ∧ addrW i o g ≤ 9223372036854775807 := by
  unfold addrW
  generalize IntKind.i64.wrap (IntKind.i64.wrap (i + 1) * (g : Int)) + o = x
  simp only [IntKind.wrap, IntKind.bits, IntKind.signed]
  simp
  omega

set_option maxHeartbeats 1600000 in
theorem adOf_yes (t p s i o : Int) (h : addrB t p s i o = true) (w : World) :
    Calls Tryz.prog 51 #[.agg #[.int .i64 t, .int .i64 p, .int .i64 s], .int .i64 i, .int .i64 o] w fun e w' => e = .returned (.tuple #[.int .i64 (addrI t p s i o), .bool (addrB t p s i o)]) ∧ Below w.heap.size w w' := by
  obtain ⟨a, ha⟩ : ∃ a, addrI t p s i o = a := ⟨_, rfl⟩
  have hy := addr_yes h
  rw [ha] at hy
  have HY := hidp hy
  have HA := hidp ha
  have HB := hidp h
  obtain ⟨_, _, _, _, a1, a2⟩ := hy
  clear ha h
  have hc := (Held.new w 23 #[.int .i64 t, .int .i64 p, .int .i64 s]).alloc (.cells #[.int .i64 i, .int .i64 o] 102)
  have hz := Held.new2 w (.cells #[.int .i64 t, .int .i64 p, .int .i64 s] 23) 102 #[.int .i64 i, .int .i64 o]
  go_enter Tryz.func51, Tryz.ntmps51
  go_wp2_with fail
  have c3 := hc.three
  have c2 := hz.two
  go_region_held3 (fun w' => w'.cell? ⟨w.heap.size, 0, none⟩ = some (.int .i64 t) ∧ w'.cell? ⟨w.heap.size, 1, none⟩ = some (.int .i64 p) ∧ w'.cell? ⟨w.heap.size, 2, none⟩ = some (.int .i64 s) ∧ w'.cell? ⟨w.heap.size + 1, 0, none⟩ = some (.int .i64 i) ∧ w'.cell? ⟨w.heap.size + 1, 1, none⟩ = some (.int .i64 o))
    (first | exact ⟨c3.1, c3.2.1, c3.2.2, c2.1, c2.2⟩ | go_keep | exact ⟨hst _ _ (by assumption), hst _ _ (by assumption), hst _ _ (by assumption), hst _ _ (by assumption), hst _ _ (by assumption)⟩)
    (first
      | (go_at_call 55; refine (cfPage_c t p s _).mono ?_; rintro e w' ⟨rfl, hbl⟩; have hst := cells_stay hbl)
      | (go_at_call 92; refine (adAddress_c i o (pageN t p s) _).mono ?_; rintro e w'' ⟨rfl, hbl2⟩; rw [HY.out.1]; have hst := cells_stay hbl2))
  have hc2 := ((Held.drewN hc 1).keep hbl).keep hbl2
  have hz2 := ((Held.drewN hz 1).keep hbl).keep hbl2
  clear c3 c2
  have c3 := hc2.three
  go_wp2_with fail
  refine (adSpotOf_c t p s a (by omega) (by omega) _).mono ?_
  rintro e w3 ⟨rfl, hb3⟩
  rw [HY.out.2.1, HY.out.2.2.1, HY.out.2.2.2.1]
  have hz3 := hz2.keep hb3
  obtain ⟨y0, y1⟩ := (hz3.alloc (.cells #[.int .i64 i, .int .i64 o] 102)).two
  go_wp2
  go_ret2
  refine ⟨by rw [HA.out, HB.out]; rfl, ?_⟩
  change Below w.heap.size w _
  have hbl : Below ((w.alloc (.cells #[.int .i64 t, .int .i64 p, .int .i64 s] 23)).alloc (.cells #[.int .i64 i, .int .i64 o] 102)).heap.size ((w.alloc (.cells #[.int .i64 t, .int .i64 p, .int .i64 s] 23)).alloc (.cells #[.int .i64 i, .int .i64 o] 102)) w' := below_draws_left (n := 1) hbl
  repeat (first | exact B0 _ | (with_reducible refine Bgo ?_ (by assumption)) | (with_reducible refine Bdrew ?_) | (with_reducible refine Bdraw ?_ _) | (with_reducible refine Bnew ?_ _) | (with_reducible refine Bput ?_ (by first | (simp; done) | (simp; omega)) _))

set_option maxHeartbeats 1600000 in
theorem adOf_no (t p s i o : Int) (h : addrB t p s i o = false) (w : World) :
    Calls Tryz.prog 51 #[.agg #[.int .i64 t, .int .i64 p, .int .i64 s], .int .i64 i, .int .i64 o] w fun e w' => e = .returned (.tuple #[.int .i64 (addrI t p s i o), .bool (addrB t p s i o)]) ∧ Below w.heap.size w w' := by
  obtain ⟨a, ha⟩ : ∃ a, addrW i o (pageN t p s) = a := ⟨_, rfl⟩
  have hr := addrW_range i o (pageN t p s)
  rw [ha] at hr
  obtain ⟨a1, a2⟩ := hr
  have HW := hidp ha
  have HA := hidp (addrI_no h)
  have HB := hidp h
  have hc := (Held.new w 23 #[.int .i64 t, .int .i64 p, .int .i64 s]).alloc (.cells #[.int .i64 i, .int .i64 o] 102)
  have hz := Held.new2 w (.cells #[.int .i64 t, .int .i64 p, .int .i64 s] 23) 102 #[.int .i64 i, .int .i64 o]
  cases hs : spotB t p s a
  · obtain ⟨z1, z2⟩ := spot_no hs
    have HS := hidp hs
    have HP := hidp z1
    have HO := hidp z2
    clear ha h hs z1 z2
    go_enter Tryz.func51, Tryz.ntmps51
    go_wp2_with fail
    have c3 := hc.three
    have c2 := hz.two
    go_region_held3 (fun w' => w'.cell? ⟨w.heap.size, 0, none⟩ = some (.int .i64 t) ∧ w'.cell? ⟨w.heap.size, 1, none⟩ = some (.int .i64 p) ∧ w'.cell? ⟨w.heap.size, 2, none⟩ = some (.int .i64 s) ∧ w'.cell? ⟨w.heap.size + 1, 0, none⟩ = some (.int .i64 i) ∧ w'.cell? ⟨w.heap.size + 1, 1, none⟩ = some (.int .i64 o))
      (first | exact ⟨c3.1, c3.2.1, c3.2.2, c2.1, c2.2⟩ | go_keep | exact ⟨hst _ _ (by assumption), hst _ _ (by assumption), hst _ _ (by assumption), hst _ _ (by assumption), hst _ _ (by assumption)⟩)
      (first
        | (go_at_call 55; refine (cfPage_c t p s _).mono ?_; rintro e w' ⟨rfl, hbl⟩; have hst := cells_stay hbl)
        | (go_at_call 92; refine (adAddress_c i o (pageN t p s) _).mono ?_; rintro e w'' ⟨rfl, hbl2⟩; rw [HW.out]; have hst := cells_stay hbl2))
    have hc2 := ((Held.drewN hc 1).keep hbl).keep hbl2
    have hz2 := ((Held.drewN hz 1).keep hbl).keep hbl2
    clear c3 c2
    have c3 := hc2.three
    go_wp2_with fail
    refine (adSpotOf_c t p s a (by omega) (by omega) _).mono ?_
    rintro e w3 ⟨rfl, hb3⟩
    rw [HS.out, HP.out, HO.out]
    have hz3 := hz2.keep hb3
    obtain ⟨y0, y1⟩ := (hz3.alloc (.cells #[.int .i64 0, .int .i64 0] 102)).two
    go_wp2
    go_ret2
    refine ⟨by rw [HA.out, HB.out]; rfl, ?_⟩
    change Below w.heap.size w _
    have hbl : Below ((w.alloc (.cells #[.int .i64 t, .int .i64 p, .int .i64 s] 23)).alloc (.cells #[.int .i64 i, .int .i64 o] 102)).heap.size ((w.alloc (.cells #[.int .i64 t, .int .i64 p, .int .i64 s] 23)).alloc (.cells #[.int .i64 i, .int .i64 o] 102)) w' := below_draws_left (n := 1) hbl
    repeat (first | exact B0 _ | (with_reducible refine Bgo ?_ (by assumption)) | (with_reducible refine Bdrew ?_) | (with_reducible refine Bdraw ?_ _) | (with_reducible refine Bnew ?_ _) | (with_reducible refine Bput ?_ (by first | (simp; done) | (simp; omega)) _))
  · have hne := addr_no h hs
    obtain ⟨d, hd⟩ : ∃ d, spotP t p s a = d := ⟨_, rfl⟩
    obtain ⟨m, hm⟩ : ∃ m, spotO t p s a = m := ⟨_, rfl⟩
    rw [hd, hm] at hne
    have HS := hidp hs
    have HP := hidp hd
    have HO := hidp hm
    clear ha h hs hd hm
    by_cases hdi : d = i
    · subst hdi
      have hmo : ¬ m = o := fun h => hne ⟨rfl, h⟩
      have hmo2 : (m == o) = false := by simpa using hmo
      clear hne
      go_enter Tryz.func51, Tryz.ntmps51
      go_wp2_with fail
      have c3 := hc.three
      have c2 := hz.two
      go_region_held3 (fun w' => w'.cell? ⟨w.heap.size, 0, none⟩ = some (.int .i64 t) ∧ w'.cell? ⟨w.heap.size, 1, none⟩ = some (.int .i64 p) ∧ w'.cell? ⟨w.heap.size, 2, none⟩ = some (.int .i64 s) ∧ w'.cell? ⟨w.heap.size + 1, 0, none⟩ = some (.int .i64 d) ∧ w'.cell? ⟨w.heap.size + 1, 1, none⟩ = some (.int .i64 o))
        (first | exact ⟨c3.1, c3.2.1, c3.2.2, c2.1, c2.2⟩ | go_keep | exact ⟨hst _ _ (by assumption), hst _ _ (by assumption), hst _ _ (by assumption), hst _ _ (by assumption), hst _ _ (by assumption)⟩)
        (first
          | (go_at_call 55; refine (cfPage_c t p s _).mono ?_; rintro e w' ⟨rfl, hbl⟩; have hst := cells_stay hbl)
          | (go_at_call 92; refine (adAddress_c d o (pageN t p s) _).mono ?_; rintro e w'' ⟨rfl, hbl2⟩; rw [HW.out]; have hst := cells_stay hbl2))
      have hc2 := ((Held.drewN hc 1).keep hbl).keep hbl2
      have hz2 := ((Held.drewN hz 1).keep hbl).keep hbl2
      clear c3 c2
      have c3 := hc2.three
      go_wp2_with fail
      refine (adSpotOf_c t p s a (by omega) (by omega) _).mono ?_
      rintro e w3 ⟨rfl, hb3⟩
      rw [HS.out, HP.out, HO.out]
      have hz3 := hz2.keep hb3
      obtain ⟨y0, y1⟩ := (hz3.alloc (.cells #[.int .i64 d, .int .i64 m] 102)).two
      go_wp2
      go_ret2
      refine ⟨by rw [HA.out, HB.out]; rfl, ?_⟩
      change Below w.heap.size w _
      have hbl : Below ((w.alloc (.cells #[.int .i64 t, .int .i64 p, .int .i64 s] 23)).alloc (.cells #[.int .i64 d, .int .i64 o] 102)).heap.size ((w.alloc (.cells #[.int .i64 t, .int .i64 p, .int .i64 s] 23)).alloc (.cells #[.int .i64 d, .int .i64 o] 102)) w' := below_draws_left (n := 1) hbl
      repeat (first | exact B0 _ | (with_reducible refine Bgo ?_ (by assumption)) | (with_reducible refine Bdrew ?_) | (with_reducible refine Bdraw ?_ _) | (with_reducible refine Bnew ?_ _) | (with_reducible refine Bput ?_ (by first | (simp; done) | (simp; omega)) _))
    · have hdi2 : (d == i) = false := by simpa using hdi
      clear hne
      go_enter Tryz.func51, Tryz.ntmps51
      go_wp2_with fail
      have c3 := hc.three
      have c2 := hz.two
      go_region_held3 (fun w' => w'.cell? ⟨w.heap.size, 0, none⟩ = some (.int .i64 t) ∧ w'.cell? ⟨w.heap.size, 1, none⟩ = some (.int .i64 p) ∧ w'.cell? ⟨w.heap.size, 2, none⟩ = some (.int .i64 s) ∧ w'.cell? ⟨w.heap.size + 1, 0, none⟩ = some (.int .i64 i) ∧ w'.cell? ⟨w.heap.size + 1, 1, none⟩ = some (.int .i64 o))
        (first | exact ⟨c3.1, c3.2.1, c3.2.2, c2.1, c2.2⟩ | go_keep | exact ⟨hst _ _ (by assumption), hst _ _ (by assumption), hst _ _ (by assumption), hst _ _ (by assumption), hst _ _ (by assumption)⟩)
        (first
          | (go_at_call 55; refine (cfPage_c t p s _).mono ?_; rintro e w' ⟨rfl, hbl⟩; have hst := cells_stay hbl)
          | (go_at_call 92; refine (adAddress_c i o (pageN t p s) _).mono ?_; rintro e w'' ⟨rfl, hbl2⟩; rw [HW.out]; have hst := cells_stay hbl2))
      have hc2 := ((Held.drewN hc 1).keep hbl).keep hbl2
      have hz2 := ((Held.drewN hz 1).keep hbl).keep hbl2
      clear c3 c2
      have c3 := hc2.three
      go_wp2_with fail
      refine (adSpotOf_c t p s a (by omega) (by omega) _).mono ?_
      rintro e w3 ⟨rfl, hb3⟩
      rw [HS.out, HP.out, HO.out]
      have hz3 := hz2.keep hb3
      obtain ⟨y0, y1⟩ := (hz3.alloc (.cells #[.int .i64 d, .int .i64 m] 102)).two
      go_wp2
      go_ret2
      refine ⟨by rw [HA.out, HB.out]; rfl, ?_⟩
      change Below w.heap.size w _
      have hbl : Below ((w.alloc (.cells #[.int .i64 t, .int .i64 p, .int .i64 s] 23)).alloc (.cells #[.int .i64 i, .int .i64 o] 102)).heap.size ((w.alloc (.cells #[.int .i64 t, .int .i64 p, .int .i64 s] 23)).alloc (.cells #[.int .i64 i, .int .i64 o] 102)) w' := below_draws_left (n := 1) hbl
      repeat (first | exact B0 _ | (with_reducible refine Bgo ?_ (by assumption)) | (with_reducible refine Bdrew ?_) | (with_reducible refine Bdraw ?_ _) | (with_reducible refine Bnew ?_ _) | (with_reducible refine Bput ?_ (by first | (simp; done) | (simp; omega)) _))

theorem adOf_c (t p s i o : Int) (w : World) :
    Calls Tryz.prog 51 #[.agg #[.int .i64 t, .int .i64 p, .int .i64 s], .int .i64 i, .int .i64 o] w fun e w' => e = .returned (.tuple #[.int .i64 (addrI t p s i o), .bool (addrB t p s i o)]) ∧ Below w.heap.size w w' := by
  cases h : addrB t p s i o
  · exact h ▸ adOf_no t p s i o h w
  · exact h ▸ adOf_yes t p s i o h w
end
section
set_option maxHeartbeats 1600000 in
theorem adPage_c (t p s a : Int) (h0 : -9223372036854775808 ≤ a) (h1 : a ≤ 9223372036854775807) (w : World) :
    Calls Tryz.prog 129 #[.agg #[.int .i64 t, .int .i64 p, .int .i64 s], .int .i64 a] w fun e w' => e = .returned (.tuple #[.int .i64 (spotP t p s a), .int .i64 (spotO t p s a), .bool (spotB t p s a)]) ∧ Below w.heap.size w w' := by
  go_enter Tryz.func129, Tryz.ntmps129
  go_wp2_with fail
  refine (adSpotOf_c t p s a h0 h1 _).mono ?_
  rintro e w1 ⟨rfl, hb1⟩
  go_wp2
  go_region
  all_goals
    go_wp2
    refine bodyPost_ret (v := .tuple #[.int .i64 (spotP t p s a), .int .i64 (spotO t p s a), .bool (spotB t p s a)]) (by simp [results, Tryz.results129, go_sem]) rfl ⟨rfl, ?_⟩
    repeat (first | exact B0 _ | (with_reducible refine Bgo ?_ (by assumption)) | (with_reducible refine Bdrew ?_) | (with_reducible refine Bdraw ?_ _) | (with_reducible refine Bnew ?_ _) | (with_reducible refine Bput ?_ (by first | (simp; done) | (simp; omega)) _))

set_option maxHeartbeats 3200000 in
theorem adSlot_c (t p s k o : Int) (hk0 : -9223372036854775808 ≤ k) (hk1 : k ≤ 9223372036854775807) (ho0 : -9223372036854775808 ≤ o) (ho1 : o ≤ 9223372036854775807) (w : World) (hT : SlotsLaid w) :
    Calls Tryz.prog 130 #[.agg #[.int .i64 t, .int .i64 p, .int .i64 s], .int .i64 k, .int .i64 o] w fun e w' => e = .returned (.tuple #[.int .i64 (slotR t p s k o), .bool (slotB t p s k o)]) ∧ Below w.heap.size w w' := by
  have HT := hidp hT
  have hc := Held.new w 23 #[.int .i64 t, .int .i64 p, .int .i64 s]
  clear hT
  obtain ⟨z, hz⟩ : ∃ z, sizeN s k = z := ⟨_, rfl⟩
  obtain ⟨n, hn⟩ : ∃ n, slotI k = n := ⟨_, rfl⟩
  have hz2 := hz ▸ sizeN_le s k
  have hn2 := hn ▸ slotI_le k
  have hE : slotB t p s k o = (rightB t p s && decide (0 < z ∧ 0 ≤ o ∧ o % (z : Int) = 0 ∧ o / (z : Int) < (n : Int))) := by unfold slotB; rw [hz, hn]
  have HZ := hidp hz
  have HN := hidp hn
  cases hr : rightB t p s
  · have HK := hidp (check_no hr)
    have hB : slotB t p s k o = false := by rw [hE, hr]; rfl
    have HR := hidp (slotR_no hB)
    have HB := hidp hB
    clear hz hn hE hr hB
    go_enter Tryz.func130, Tryz.ntmps130
    go_wp2_with fail
    refine (clSize_c s k hk0 hk1 _ (HT.out.alloc _)).mono ?_
    rintro e w1 ⟨rfl, hb1⟩
    rw [HZ.out]
    have hc1 := hc.keep hb1
    have HT1 := hidp ((HT.out.alloc _).below hb1)
    have c3 := hc1.three
    go_wp2_with fail
    refine (cfCheck_c t p s _).mono ?_
    rintro e w2 ⟨rfl, hb2⟩
    rw [HK.out]
    go_wp2
    go_ret2
    refine ⟨by rw [HR.out, HB.out]; rfl, ?_⟩
    repeat (first | exact B0 _ | (with_reducible refine Bgo ?_ (by assumption)) | (with_reducible refine Bdrew ?_) | (with_reducible refine Bdraw ?_ _) | (with_reducible refine Bnew ?_ _) | (with_reducible refine Bput ?_ (by first | (simp; done) | (simp; omega)) _))
  · have HK := hidp (check_yes hr)
    rw [hr, Bool.true_and] at hE
    clear hr
    by_cases c1 : z = 0
    · have hB : slotB t p s k o = false := by rw [hE, decide_eq_false_iff_not]; omega
      have HR := hidp (slotR_no hB)
      have HB := hidp hB
      subst c1
      clear hz hn hE hB
      go_enter Tryz.func130, Tryz.ntmps130
      go_wp2_with fail
      refine (clSize_c s k hk0 hk1 _ (HT.out.alloc _)).mono ?_
      rintro e w1 ⟨rfl, hb1⟩
      rw [HZ.out]
      have hc1 := hc.keep hb1
      have HT1 := hidp ((HT.out.alloc _).below hb1)
      have c3 := hc1.three
      go_wp2_with fail
      refine (cfCheck_c t p s _).mono ?_
      rintro e w2 ⟨rfl, hb2⟩
      rw [HK.out]
      go_wp2
      go_ret2
      refine ⟨by rw [HR.out, HB.out]; rfl, ?_⟩
      repeat (first | exact B0 _ | (with_reducible refine Bgo ?_ (by assumption)) | (with_reducible refine Bdrew ?_) | (with_reducible refine Bdraw ?_ _) | (with_reducible refine Bnew ?_ _) | (with_reducible refine Bput ?_ (by first | (simp; done) | (simp; omega)) _))
    · have z1 : ((z : Int) == 0) = false := by simpa using c1
      by_cases c2 : o < 0
      · have hB : slotB t p s k o = false := by rw [hE, decide_eq_false_iff_not]; omega
        have HR := hidp (slotR_no hB)
        have HB := hidp hB
        clear hz hn hE hB
        go_enter Tryz.func130, Tryz.ntmps130
        go_wp2_with fail
        refine (clSize_c s k hk0 hk1 _ (HT.out.alloc _)).mono ?_
        rintro e w1 ⟨rfl, hb1⟩
        rw [HZ.out]
        have hc1 := hc.keep hb1
        have HT1 := hidp ((HT.out.alloc _).below hb1)
        have c3 := hc1.three
        go_wp2_with fail
        refine (cfCheck_c t p s _).mono ?_
        rintro e w2 ⟨rfl, hb2⟩
        rw [HK.out]
        go_wp2
        go_ret2
        refine ⟨by rw [HR.out, HB.out]; rfl, ?_⟩
        repeat (first | exact B0 _ | (with_reducible refine Bgo ?_ (by assumption)) | (with_reducible refine Bdrew ?_) | (with_reducible refine Bdraw ?_ _) | (with_reducible refine Bnew ?_ _) | (with_reducible refine Bput ?_ (by first | (simp; done) | (simp; omega)) _))
      · have q1 : o.tdiv (z : Int) = o / (z : Int) := Int.tdiv_eq_ediv_of_nonneg (by omega)
        have q2 : o.tmod (z : Int) = o % (z : Int) := Int.tmod_eq_emod_of_nonneg (by omega)
        have m0 := Int.emod_nonneg o (show (z : Int) ≠ 0 by omega)
        have m1 := Int.emod_lt_of_pos o (show (0 : Int) < z by omega)
        have d0 := Int.ediv_nonneg (a := o) (b := (z : Int)) (by omega) (by omega)
        have d1 : o / (z : Int) ≤ o := Int.ediv_le_self _ (by omega)
        have hRR : slotB t p s k o = true → slotR t p s k o = o / (z : Int) := fun h => by unfold slotR; rw [if_pos h, hz]
        obtain ⟨d, hd⟩ : ∃ d, o / (z : Int) = d := ⟨_, rfl⟩
        obtain ⟨m, hm⟩ : ∃ m, o % (z : Int) = m := ⟨_, rfl⟩
        rw [hd] at q1 d0 d1 hE hRR
        rw [hm] at q2 m0 m1 hE
        by_cases c3 : m = 0
        · have m3 : (m != 0) = false := by simpa using c3
          by_cases c4 : d < (n : Int)
          · have hB : slotB t p s k o = true := by rw [hE, decide_eq_true_iff]; omega
            have HR := hidp (hRR hB)
            have HB := hidp hB
            clear hz hn hE hB hRR hd hm
            go_enter Tryz.func130, Tryz.ntmps130
            go_wp2_with fail
            refine (clSize_c s k hk0 hk1 _ (HT.out.alloc _)).mono ?_
            rintro e w1 ⟨rfl, hb1⟩
            rw [HZ.out]
            have hc1 := hc.keep hb1
            have HT1 := hidp ((HT.out.alloc _).below hb1)
            have c3 := hc1.three
            go_wp2_with fail
            refine (cfCheck_c t p s _).mono ?_
            rintro e w2 ⟨rfl, hb2⟩
            rw [HK.out]
            have HT2 := hidp (HT1.out.below hb2)
            go_wp2_with fail
            refine (clSlots_c k hk0 hk1 _ HT2.out).mono ?_
            rintro e w3 ⟨rfl, rfl⟩
            rw [HN.out]
            go_wp2
            go_ret2
            refine ⟨by rw [HR.out, HB.out]; rfl, ?_⟩
            repeat (first | exact B0 _ | (with_reducible refine Bgo ?_ (by assumption)) | (with_reducible refine Bdrew ?_) | (with_reducible refine Bdraw ?_ _) | (with_reducible refine Bnew ?_ _) | (with_reducible refine Bput ?_ (by first | (simp; done) | (simp; omega)) _))
          · have hB : slotB t p s k o = false := by rw [hE, decide_eq_false_iff_not]; omega
            have HR := hidp (slotR_no hB)
            have HB := hidp hB
            clear hz hn hE hB hRR hd hm
            go_enter Tryz.func130, Tryz.ntmps130
            go_wp2_with fail
            refine (clSize_c s k hk0 hk1 _ (HT.out.alloc _)).mono ?_
            rintro e w1 ⟨rfl, hb1⟩
            rw [HZ.out]
            have hc1 := hc.keep hb1
            have HT1 := hidp ((HT.out.alloc _).below hb1)
            have c3 := hc1.three
            go_wp2_with fail
            refine (cfCheck_c t p s _).mono ?_
            rintro e w2 ⟨rfl, hb2⟩
            rw [HK.out]
            have HT2 := hidp (HT1.out.below hb2)
            go_wp2_with fail
            refine (clSlots_c k hk0 hk1 _ HT2.out).mono ?_
            rintro e w3 ⟨rfl, rfl⟩
            rw [HN.out]
            go_wp2
            go_ret2
            refine ⟨by rw [HR.out, HB.out]; rfl, ?_⟩
            repeat (first | exact B0 _ | (with_reducible refine Bgo ?_ (by assumption)) | (with_reducible refine Bdrew ?_) | (with_reducible refine Bdraw ?_ _) | (with_reducible refine Bnew ?_ _) | (with_reducible refine Bput ?_ (by first | (simp; done) | (simp; omega)) _))
        · have m3 : (m != 0) = true := by simpa using c3
          have hB : slotB t p s k o = false := by rw [hE, decide_eq_false_iff_not]; omega
          have HR := hidp (slotR_no hB)
          have HB := hidp hB
          clear hz hn hE hB hRR hd hm
          go_enter Tryz.func130, Tryz.ntmps130
          go_wp2_with fail
          refine (clSize_c s k hk0 hk1 _ (HT.out.alloc _)).mono ?_
          rintro e w1 ⟨rfl, hb1⟩
          rw [HZ.out]
          have hc1 := hc.keep hb1
          have HT1 := hidp ((HT.out.alloc _).below hb1)
          have c3 := hc1.three
          go_wp2_with fail
          refine (cfCheck_c t p s _).mono ?_
          rintro e w2 ⟨rfl, hb2⟩
          rw [HK.out]
          go_wp2
          go_ret2
          refine ⟨by rw [HR.out, HB.out]; rfl, ?_⟩
          repeat (first | exact B0 _ | (with_reducible refine Bgo ?_ (by assumption)) | (with_reducible refine Bdrew ?_) | (with_reducible refine Bdraw ?_ _) | (with_reducible refine Bnew ?_ _) | (with_reducible refine Bput ?_ (by first | (simp; done) | (simp; omega)) _))
end
section
theorem Held.drew {w : World} {g : Nat} {t : TypeId} {cs : Array Value} (h : Held w g t cs) : Held w.drew g t cs := h
structure HeapV (H : AuH) (n c : Nat) : Prop where
  right : rightB H.t H.p H.s = true
  len : n = 30 + 4 * H.t + 6 * H.p
  cap : n ≤ c
  max : c ≤ maxLen
  lt : ∀ i, i < n → H.V i < 2 ^ 32
def IsVals (w : World) (ad : Addr) (n : Nat) (V : Nat → Nat) : Prop := ad.block < w.heap.size ∧ ∀ i, i < n → w.cell? (ad.add i) = some (.int .u32 (V i : Nat))
theorem IsVals.below {w w' : World} {ad : Addr} {n : Nat} {V : Nat → Nat} (h : IsVals w ad n V) (hb : Below w.heap.size w w') : IsVals w' ad n V :=
  ⟨Nat.lt_of_lt_of_le h.1 hb.size, fun i hi => by
    have e : (ad.add i).block < w.heap.size := by rw [block_of_add]; exact h.1
    exact (hb.cell e).trans (h.2 i hi)⟩
theorem IsVals.drew {w : World} {ad : Addr} {n : Nat} {V : Nat → Nat} (h : IsVals w ad n V) : IsVals w.drew ad n V := h
theorem HeapV.nums {H : AuH} {n c : Nat} (h : HeapV H n c) : 1 ≤ H.t ∧ H.t ≤ 16 ∧ 4 ≤ H.p ∧ H.p ≤ 1024 ∧ 10 ≤ H.s ∧ H.s ≤ 20 ∧ n ≤ 6238 ∧ n ≤ c ∧ c ≤ maxLen := by
  have h1 := (rightB_iff _ _ _).1 h.right
  have h2 := h.len
  have h3 := h.cap
  have h4 := h.max
  omega
theorem HeapV.cel_lt {H : AuH} {n c : Nat} (h : HeapV H n c) {q b : Nat} (hq : q < H.p) (hb : b < 6) : H.cel q b < 2 ^ 32 := h.lt _ (by have := h.len; omega)
theorem HeapV.page {H : AuH} {n c : Nat} (h : HeapV H n c) {q b : Nat} (hq : q < H.p) (hb : b < 6) : pageI H.t H.p H.s q b = ((30 + 4 * H.t + 6 * q + b : Nat) : Int) := by
  rw [pcell_yes h.right (by omega) (by omega) (by omega) (by omega)]
  push_cast
  omega
def hpV (H : AuH) (ad : Addr) (n c : Nat) : Value := .agg #[.int .i64 (H.t : Int), .int .i64 (H.p : Int), .int .i64 (H.s : Int), .slice (some ad) n c]

set_option maxHeartbeats 1600000 in
theorem auAt_Info_c {H : AuH} {n c : Nat} (HV : HeapV H n c) (ad : Addr) {q : Nat} (hq : q < H.p) (w : World) (hv : IsVals w ad n H.V) :
    Calls Tryz.prog 49 #[hpV H ad n c, .func (.func 50) #[] #[], .int .i64 (q : Int)] w fun e w' => e = .returned (.int .u32 (H.cel q 0 : Nat)) ∧ Below w.heap.size w w' := by
  obtain ⟨i, hi⟩ : ∃ i, 30 + 4 * H.t + 6 * q + 0 = i := ⟨_, rfl⟩
  have hin : i < n := by have := HV.len; omega
  have HI : Hid (pageI H.t H.p H.s q 0 = (i : Int)) := hidp (by have h := HV.page (b := 0) hq (by omega); rw [hi] at h; exact h)
  have hn := HV.nums
  have hc0 := hv.2 i hin
  have hcel : H.cel q 0 = H.V i := by unfold AuH.cel; rw [hi]
  rw [hcel]
  obtain ⟨v, hvv⟩ : ∃ v, H.V i = v := ⟨_, rfl⟩
  rw [hvv] at hc0 ⊢
  have hbl : (ad.add i).block < w.heap.size := by rw [block_of_add]; exact hv.1
  have hc := Held.new w 51 #[.int .i64 (H.t : Int), .int .i64 (H.p : Int), .int .i64 (H.s : Int), .slice (some ad) n c]
  have HS : Hid (∀ w', Below w.heap.size w w' → Held w' w.heap.size 51 #[.int .i64 (H.t : Int), .int .i64 (H.p : Int), .int .i64 (H.s : Int), .slice (some ad) n c] → (fun w' => w'.cell? ⟨w.heap.size, 0, none⟩ = some (.int .i64 (H.t : Int)) ∧ w'.cell? ⟨w.heap.size, 1, none⟩ = some (.int .i64 (H.p : Int)) ∧ w'.cell? ⟨w.heap.size, 2, none⟩ = some (.int .i64 (H.s : Int)) ∧ w'.cell? ⟨w.heap.size, 3, none⟩ = some (.slice (some ad) n c) ∧ w'.cell? (ad.add i) = some (.int .u32 (v : Int))) w') := hidp (fun w' hb hh => ⟨hh.four.1, hh.four.2.1, hh.four.2.2.1, hh.four.2.2.2, (hb.cell hbl).trans hc0⟩)
  have hcx : c ≤ 9223372036854775807 := hn.2.2.2.2.2.2.2.2
  have hni : n ≤ 6238 := hn.2.2.2.2.2.2.1
  have hnc := HV.cap
  clear hv hc0 hbl hcel hvv hi hn hq
  unfold hpV
  go_enter Tryz.func49, Tryz.ntmps49
  go_wp2_with fail
  refine wp_region_held_drew (S := (fun w' => w'.cell? ⟨w.heap.size, 0, none⟩ = some (.int .i64 (H.t : Int)) ∧ w'.cell? ⟨w.heap.size, 1, none⟩ = some (.int .i64 (H.p : Int)) ∧ w'.cell? ⟨w.heap.size, 2, none⟩ = some (.int .i64 (H.s : Int)) ∧ w'.cell? ⟨w.heap.size, 3, none⟩ = some (.slice (some ad) n c) ∧ w'.cell? (ad.add i) = some (.int .u32 (v : Int)))) (by kernel_rfl) ?_ (fun hHeld => ?_)
  · (try dsimp only)
    first | exact HS.out _ (Bdrew (Bnew (B0 w) _)) hc | exact HS.out _ HB1.out HC1.out | exact hHeld
  refine tkz 0 ?_
  refine tkz 1 ?_
  refine tkz 2 ?_
  refine tkz 3 ?_
  refine tkz 4 ?_
  refine tkz 5 ?_
  refine wpAnyH_ready (rs := [6]) (by kernel_rfl) (by simp) ?_
  refine AllReadyH.cons (o := _) rfl (fun K hK => ?_) AllReadyH.nil
  go_simp
  (go_at_call 50; refine (plInfo_c _ _ _ _ _).mono ?_; rintro e w1 ⟨rfl, hb1⟩; rw [HI.out]; have HB1 := hidp (Bgo (Bdrew (Bnew (B0 w) _)) hb1); have HC1 := hidp (hc.drew.keep hb1); clear hb1)
  refine hK.out _ _ ?_ (fun hHeld => ?_)
  · (try dsimp only)
    first | exact HS.out _ (Bdrew (Bnew (B0 w) _)) hc | exact HS.out _ HB1.out HC1.out | exact hHeld
  clear hK K
  (try simp only [Act.put, gA, gB, gC, sA, sB, sC])
  refine tkz 7 ?_
  refine tkz 8 ?_
  refine tkz 9 ?_
  refine wpAnyH_done (by kernel_rfl) ?_ _
  go_wp2
  go_ret
  exact ⟨rfl, HB1.out⟩

set_option maxHeartbeats 1600000 in
theorem auAt_Foot_c {H : AuH} {n c : Nat} (HV : HeapV H n c) (ad : Addr) {q : Nat} (hq : q < H.p) (w : World) (hv : IsVals w ad n H.V) :
    Calls Tryz.prog 49 #[hpV H ad n c, .func (.func 103) #[] #[], .int .i64 (q : Int)] w fun e w' => e = .returned (.int .u32 (H.cel q 1 : Nat)) ∧ Below w.heap.size w w' := by
  obtain ⟨i, hi⟩ : ∃ i, 30 + 4 * H.t + 6 * q + 1 = i := ⟨_, rfl⟩
  have hin : i < n := by have := HV.len; omega
  have HI : Hid (pageI H.t H.p H.s q 1 = (i : Int)) := hidp (by have h := HV.page (b := 1) hq (by omega); rw [hi] at h; exact h)
  have hn := HV.nums
  have hc0 := hv.2 i hin
  have hcel : H.cel q 1 = H.V i := by unfold AuH.cel; rw [hi]
  rw [hcel]
  obtain ⟨v, hvv⟩ : ∃ v, H.V i = v := ⟨_, rfl⟩
  rw [hvv] at hc0 ⊢
  have hbl : (ad.add i).block < w.heap.size := by rw [block_of_add]; exact hv.1
  have hc := Held.new w 51 #[.int .i64 (H.t : Int), .int .i64 (H.p : Int), .int .i64 (H.s : Int), .slice (some ad) n c]
  have HS : Hid (∀ w', Below w.heap.size w w' → Held w' w.heap.size 51 #[.int .i64 (H.t : Int), .int .i64 (H.p : Int), .int .i64 (H.s : Int), .slice (some ad) n c] → (fun w' => w'.cell? ⟨w.heap.size, 0, none⟩ = some (.int .i64 (H.t : Int)) ∧ w'.cell? ⟨w.heap.size, 1, none⟩ = some (.int .i64 (H.p : Int)) ∧ w'.cell? ⟨w.heap.size, 2, none⟩ = some (.int .i64 (H.s : Int)) ∧ w'.cell? ⟨w.heap.size, 3, none⟩ = some (.slice (some ad) n c) ∧ w'.cell? (ad.add i) = some (.int .u32 (v : Int))) w') := hidp (fun w' hb hh => ⟨hh.four.1, hh.four.2.1, hh.four.2.2.1, hh.four.2.2.2, (hb.cell hbl).trans hc0⟩)
  have hcx : c ≤ 9223372036854775807 := hn.2.2.2.2.2.2.2.2
  have hni : n ≤ 6238 := hn.2.2.2.2.2.2.1
  have hnc := HV.cap
  clear hv hc0 hbl hcel hvv hi hn hq
  unfold hpV
  go_enter Tryz.func49, Tryz.ntmps49
  go_wp2_with fail
  refine wp_region_held_drew (S := (fun w' => w'.cell? ⟨w.heap.size, 0, none⟩ = some (.int .i64 (H.t : Int)) ∧ w'.cell? ⟨w.heap.size, 1, none⟩ = some (.int .i64 (H.p : Int)) ∧ w'.cell? ⟨w.heap.size, 2, none⟩ = some (.int .i64 (H.s : Int)) ∧ w'.cell? ⟨w.heap.size, 3, none⟩ = some (.slice (some ad) n c) ∧ w'.cell? (ad.add i) = some (.int .u32 (v : Int)))) (by kernel_rfl) ?_ (fun hHeld => ?_)
  · (try dsimp only)
    first | exact HS.out _ (Bdrew (Bnew (B0 w) _)) hc | exact HS.out _ HB1.out HC1.out | exact hHeld
  refine tkz 0 ?_
  refine tkz 1 ?_
  refine tkz 2 ?_
  refine tkz 3 ?_
  refine tkz 4 ?_
  refine tkz 5 ?_
  refine wpAnyH_ready (rs := [6]) (by kernel_rfl) (by simp) ?_
  refine AllReadyH.cons (o := _) rfl (fun K hK => ?_) AllReadyH.nil
  go_simp
  (go_at_call 103; refine (plFoot_c _ _ _ _ _).mono ?_; rintro e w1 ⟨rfl, hb1⟩; rw [HI.out]; have HB1 := hidp (Bgo (Bdrew (Bnew (B0 w) _)) hb1); have HC1 := hidp (hc.drew.keep hb1); clear hb1)
  refine hK.out _ _ ?_ (fun hHeld => ?_)
  · (try dsimp only)
    first | exact HS.out _ (Bdrew (Bnew (B0 w) _)) hc | exact HS.out _ HB1.out HC1.out | exact hHeld
  clear hK K
  (try simp only [Act.put, gA, gB, gC, sA, sB, sC])
  refine tkz 7 ?_
  refine tkz 8 ?_
  refine tkz 9 ?_
  refine wpAnyH_done (by kernel_rfl) ?_ _
  go_wp2
  go_ret
  exact ⟨rfl, HB1.out⟩

set_option maxHeartbeats 1600000 in
theorem auAt_Next_c {H : AuH} {n c : Nat} (HV : HeapV H n c) (ad : Addr) {q : Nat} (hq : q < H.p) (w : World) (hv : IsVals w ad n H.V) :
    Calls Tryz.prog 49 #[hpV H ad n c, .func (.func 110) #[] #[], .int .i64 (q : Int)] w fun e w' => e = .returned (.int .u32 (H.cel q 2 : Nat)) ∧ Below w.heap.size w w' := by
  obtain ⟨i, hi⟩ : ∃ i, 30 + 4 * H.t + 6 * q + 2 = i := ⟨_, rfl⟩
  have hin : i < n := by have := HV.len; omega
  have HI : Hid (pageI H.t H.p H.s q 2 = (i : Int)) := hidp (by have h := HV.page (b := 2) hq (by omega); rw [hi] at h; exact h)
  have hn := HV.nums
  have hc0 := hv.2 i hin
  have hcel : H.cel q 2 = H.V i := by unfold AuH.cel; rw [hi]
  rw [hcel]
  obtain ⟨v, hvv⟩ : ∃ v, H.V i = v := ⟨_, rfl⟩
  rw [hvv] at hc0 ⊢
  have hbl : (ad.add i).block < w.heap.size := by rw [block_of_add]; exact hv.1
  have hc := Held.new w 51 #[.int .i64 (H.t : Int), .int .i64 (H.p : Int), .int .i64 (H.s : Int), .slice (some ad) n c]
  have HS : Hid (∀ w', Below w.heap.size w w' → Held w' w.heap.size 51 #[.int .i64 (H.t : Int), .int .i64 (H.p : Int), .int .i64 (H.s : Int), .slice (some ad) n c] → (fun w' => w'.cell? ⟨w.heap.size, 0, none⟩ = some (.int .i64 (H.t : Int)) ∧ w'.cell? ⟨w.heap.size, 1, none⟩ = some (.int .i64 (H.p : Int)) ∧ w'.cell? ⟨w.heap.size, 2, none⟩ = some (.int .i64 (H.s : Int)) ∧ w'.cell? ⟨w.heap.size, 3, none⟩ = some (.slice (some ad) n c) ∧ w'.cell? (ad.add i) = some (.int .u32 (v : Int))) w') := hidp (fun w' hb hh => ⟨hh.four.1, hh.four.2.1, hh.four.2.2.1, hh.four.2.2.2, (hb.cell hbl).trans hc0⟩)
  have hcx : c ≤ 9223372036854775807 := hn.2.2.2.2.2.2.2.2
  have hni : n ≤ 6238 := hn.2.2.2.2.2.2.1
  have hnc := HV.cap
  clear hv hc0 hbl hcel hvv hi hn hq
  unfold hpV
  go_enter Tryz.func49, Tryz.ntmps49
  go_wp2_with fail
  refine wp_region_held_drew (S := (fun w' => w'.cell? ⟨w.heap.size, 0, none⟩ = some (.int .i64 (H.t : Int)) ∧ w'.cell? ⟨w.heap.size, 1, none⟩ = some (.int .i64 (H.p : Int)) ∧ w'.cell? ⟨w.heap.size, 2, none⟩ = some (.int .i64 (H.s : Int)) ∧ w'.cell? ⟨w.heap.size, 3, none⟩ = some (.slice (some ad) n c) ∧ w'.cell? (ad.add i) = some (.int .u32 (v : Int)))) (by kernel_rfl) ?_ (fun hHeld => ?_)
  · (try dsimp only)
    first | exact HS.out _ (Bdrew (Bnew (B0 w) _)) hc | exact HS.out _ HB1.out HC1.out | exact hHeld
  refine tkz 0 ?_
  refine tkz 1 ?_
  refine tkz 2 ?_
  refine tkz 3 ?_
  refine tkz 4 ?_
  refine tkz 5 ?_
  refine wpAnyH_ready (rs := [6]) (by kernel_rfl) (by simp) ?_
  refine AllReadyH.cons (o := _) rfl (fun K hK => ?_) AllReadyH.nil
  go_simp
  (go_at_call 110; refine (plNext_c _ _ _ _ _).mono ?_; rintro e w1 ⟨rfl, hb1⟩; rw [HI.out]; have HB1 := hidp (Bgo (Bdrew (Bnew (B0 w) _)) hb1); have HC1 := hidp (hc.drew.keep hb1); clear hb1)
  refine hK.out _ _ ?_ (fun hHeld => ?_)
  · (try dsimp only)
    first | exact HS.out _ (Bdrew (Bnew (B0 w) _)) hc | exact HS.out _ HB1.out HC1.out | exact hHeld
  clear hK K
  (try simp only [Act.put, gA, gB, gC, sA, sB, sC])
  refine tkz 7 ?_
  refine tkz 8 ?_
  refine tkz 9 ?_
  refine wpAnyH_done (by kernel_rfl) ?_ _
  go_wp2
  go_ret
  exact ⟨rfl, HB1.out⟩

set_option maxHeartbeats 1600000 in
theorem auAt_Prev_c {H : AuH} {n c : Nat} (HV : HeapV H n c) (ad : Addr) {q : Nat} (hq : q < H.p) (w : World) (hv : IsVals w ad n H.V) :
    Calls Tryz.prog 49 #[hpV H ad n c, .func (.func 111) #[] #[], .int .i64 (q : Int)] w fun e w' => e = .returned (.int .u32 (H.cel q 3 : Nat)) ∧ Below w.heap.size w w' := by
  obtain ⟨i, hi⟩ : ∃ i, 30 + 4 * H.t + 6 * q + 3 = i := ⟨_, rfl⟩
  have hin : i < n := by have := HV.len; omega
  have HI : Hid (pageI H.t H.p H.s q 3 = (i : Int)) := hidp (by have h := HV.page (b := 3) hq (by omega); rw [hi] at h; exact h)
  have hn := HV.nums
  have hc0 := hv.2 i hin
  have hcel : H.cel q 3 = H.V i := by unfold AuH.cel; rw [hi]
  rw [hcel]
  obtain ⟨v, hvv⟩ : ∃ v, H.V i = v := ⟨_, rfl⟩
  rw [hvv] at hc0 ⊢
  have hbl : (ad.add i).block < w.heap.size := by rw [block_of_add]; exact hv.1
  have hc := Held.new w 51 #[.int .i64 (H.t : Int), .int .i64 (H.p : Int), .int .i64 (H.s : Int), .slice (some ad) n c]
  have HS : Hid (∀ w', Below w.heap.size w w' → Held w' w.heap.size 51 #[.int .i64 (H.t : Int), .int .i64 (H.p : Int), .int .i64 (H.s : Int), .slice (some ad) n c] → (fun w' => w'.cell? ⟨w.heap.size, 0, none⟩ = some (.int .i64 (H.t : Int)) ∧ w'.cell? ⟨w.heap.size, 1, none⟩ = some (.int .i64 (H.p : Int)) ∧ w'.cell? ⟨w.heap.size, 2, none⟩ = some (.int .i64 (H.s : Int)) ∧ w'.cell? ⟨w.heap.size, 3, none⟩ = some (.slice (some ad) n c) ∧ w'.cell? (ad.add i) = some (.int .u32 (v : Int))) w') := hidp (fun w' hb hh => ⟨hh.four.1, hh.four.2.1, hh.four.2.2.1, hh.four.2.2.2, (hb.cell hbl).trans hc0⟩)
  have hcx : c ≤ 9223372036854775807 := hn.2.2.2.2.2.2.2.2
  have hni : n ≤ 6238 := hn.2.2.2.2.2.2.1
  have hnc := HV.cap
  clear hv hc0 hbl hcel hvv hi hn hq
  unfold hpV
  go_enter Tryz.func49, Tryz.ntmps49
  go_wp2_with fail
  refine wp_region_held_drew (S := (fun w' => w'.cell? ⟨w.heap.size, 0, none⟩ = some (.int .i64 (H.t : Int)) ∧ w'.cell? ⟨w.heap.size, 1, none⟩ = some (.int .i64 (H.p : Int)) ∧ w'.cell? ⟨w.heap.size, 2, none⟩ = some (.int .i64 (H.s : Int)) ∧ w'.cell? ⟨w.heap.size, 3, none⟩ = some (.slice (some ad) n c) ∧ w'.cell? (ad.add i) = some (.int .u32 (v : Int)))) (by kernel_rfl) ?_ (fun hHeld => ?_)
  · (try dsimp only)
    first | exact HS.out _ (Bdrew (Bnew (B0 w) _)) hc | exact HS.out _ HB1.out HC1.out | exact hHeld
  refine tkz 0 ?_
  refine tkz 1 ?_
  refine tkz 2 ?_
  refine tkz 3 ?_
  refine tkz 4 ?_
  refine tkz 5 ?_
  refine wpAnyH_ready (rs := [6]) (by kernel_rfl) (by simp) ?_
  refine AllReadyH.cons (o := _) rfl (fun K hK => ?_) AllReadyH.nil
  go_simp
  (go_at_call 111; refine (plPrev_c _ _ _ _ _).mono ?_; rintro e w1 ⟨rfl, hb1⟩; rw [HI.out]; have HB1 := hidp (Bgo (Bdrew (Bnew (B0 w) _)) hb1); have HC1 := hidp (hc.drew.keep hb1); clear hb1)
  refine hK.out _ _ ?_ (fun hHeld => ?_)
  · (try dsimp only)
    first | exact HS.out _ (Bdrew (Bnew (B0 w) _)) hc | exact HS.out _ HB1.out HC1.out | exact hHeld
  clear hK K
  (try simp only [Act.put, gA, gB, gC, sA, sB, sC])
  refine tkz 7 ?_
  refine tkz 8 ?_
  refine tkz 9 ?_
  refine wpAnyH_done (by kernel_rfl) ?_ _
  go_wp2
  go_ret
  exact ⟨rfl, HB1.out⟩

set_option maxHeartbeats 1600000 in
theorem auAt_Slots_c {H : AuH} {n c : Nat} (HV : HeapV H n c) (ad : Addr) {q : Nat} (hq : q < H.p) (w : World) (hv : IsVals w ad n H.V) :
    Calls Tryz.prog 49 #[hpV H ad n c, .func (.func 53) #[] #[], .int .i64 (q : Int)] w fun e w' => e = .returned (.int .u32 (H.cel q 4 : Nat)) ∧ Below w.heap.size w w' := by
  obtain ⟨i, hi⟩ : ∃ i, 30 + 4 * H.t + 6 * q + 4 = i := ⟨_, rfl⟩
  have hin : i < n := by have := HV.len; omega
  have HI : Hid (pageI H.t H.p H.s q 4 = (i : Int)) := hidp (by have h := HV.page (b := 4) hq (by omega); rw [hi] at h; exact h)
  have hn := HV.nums
  have hc0 := hv.2 i hin
  have hcel : H.cel q 4 = H.V i := by unfold AuH.cel; rw [hi]
  rw [hcel]
  obtain ⟨v, hvv⟩ : ∃ v, H.V i = v := ⟨_, rfl⟩
  rw [hvv] at hc0 ⊢
  have hbl : (ad.add i).block < w.heap.size := by rw [block_of_add]; exact hv.1
  have hc := Held.new w 51 #[.int .i64 (H.t : Int), .int .i64 (H.p : Int), .int .i64 (H.s : Int), .slice (some ad) n c]
  have HS : Hid (∀ w', Below w.heap.size w w' → Held w' w.heap.size 51 #[.int .i64 (H.t : Int), .int .i64 (H.p : Int), .int .i64 (H.s : Int), .slice (some ad) n c] → (fun w' => w'.cell? ⟨w.heap.size, 0, none⟩ = some (.int .i64 (H.t : Int)) ∧ w'.cell? ⟨w.heap.size, 1, none⟩ = some (.int .i64 (H.p : Int)) ∧ w'.cell? ⟨w.heap.size, 2, none⟩ = some (.int .i64 (H.s : Int)) ∧ w'.cell? ⟨w.heap.size, 3, none⟩ = some (.slice (some ad) n c) ∧ w'.cell? (ad.add i) = some (.int .u32 (v : Int))) w') := hidp (fun w' hb hh => ⟨hh.four.1, hh.four.2.1, hh.four.2.2.1, hh.four.2.2.2, (hb.cell hbl).trans hc0⟩)
  have hcx : c ≤ 9223372036854775807 := hn.2.2.2.2.2.2.2.2
  have hni : n ≤ 6238 := hn.2.2.2.2.2.2.1
  have hnc := HV.cap
  clear hv hc0 hbl hcel hvv hi hn hq
  unfold hpV
  go_enter Tryz.func49, Tryz.ntmps49
  go_wp2_with fail
  refine wp_region_held_drew (S := (fun w' => w'.cell? ⟨w.heap.size, 0, none⟩ = some (.int .i64 (H.t : Int)) ∧ w'.cell? ⟨w.heap.size, 1, none⟩ = some (.int .i64 (H.p : Int)) ∧ w'.cell? ⟨w.heap.size, 2, none⟩ = some (.int .i64 (H.s : Int)) ∧ w'.cell? ⟨w.heap.size, 3, none⟩ = some (.slice (some ad) n c) ∧ w'.cell? (ad.add i) = some (.int .u32 (v : Int)))) (by kernel_rfl) ?_ (fun hHeld => ?_)
  · (try dsimp only)
    first | exact HS.out _ (Bdrew (Bnew (B0 w) _)) hc | exact HS.out _ HB1.out HC1.out | exact hHeld
  refine tkz 0 ?_
  refine tkz 1 ?_
  refine tkz 2 ?_
  refine tkz 3 ?_
  refine tkz 4 ?_
  refine tkz 5 ?_
  refine wpAnyH_ready (rs := [6]) (by kernel_rfl) (by simp) ?_
  refine AllReadyH.cons (o := _) rfl (fun K hK => ?_) AllReadyH.nil
  go_simp
  (go_at_call 53; refine (plSlots_c _ _ _ _ _).mono ?_; rintro e w1 ⟨rfl, hb1⟩; rw [HI.out]; have HB1 := hidp (Bgo (Bdrew (Bnew (B0 w) _)) hb1); have HC1 := hidp (hc.drew.keep hb1); clear hb1)
  refine hK.out _ _ ?_ (fun hHeld => ?_)
  · (try dsimp only)
    first | exact HS.out _ (Bdrew (Bnew (B0 w) _)) hc | exact HS.out _ HB1.out HC1.out | exact hHeld
  clear hK K
  (try simp only [Act.put, gA, gB, gC, sA, sB, sC])
  refine tkz 7 ?_
  refine tkz 8 ?_
  refine tkz 9 ?_
  refine wpAnyH_done (by kernel_rfl) ?_ _
  go_wp2
  go_ret
  exact ⟨rfl, HB1.out⟩

set_option maxHeartbeats 1600000 in
theorem auAt_Taken_c {H : AuH} {n c : Nat} (HV : HeapV H n c) (ad : Addr) {q : Nat} (hq : q < H.p) (w : World) (hv : IsVals w ad n H.V) :
    Calls Tryz.prog 49 #[hpV H ad n c, .func (.func 52) #[] #[], .int .i64 (q : Int)] w fun e w' => e = .returned (.int .u32 (H.cel q 5 : Nat)) ∧ Below w.heap.size w w' := by
  obtain ⟨i, hi⟩ : ∃ i, 30 + 4 * H.t + 6 * q + 5 = i := ⟨_, rfl⟩
  have hin : i < n := by have := HV.len; omega
  have HI : Hid (pageI H.t H.p H.s q 5 = (i : Int)) := hidp (by have h := HV.page (b := 5) hq (by omega); rw [hi] at h; exact h)
  have hn := HV.nums
  have hc0 := hv.2 i hin
  have hcel : H.cel q 5 = H.V i := by unfold AuH.cel; rw [hi]
  rw [hcel]
  obtain ⟨v, hvv⟩ : ∃ v, H.V i = v := ⟨_, rfl⟩
  rw [hvv] at hc0 ⊢
  have hbl : (ad.add i).block < w.heap.size := by rw [block_of_add]; exact hv.1
  have hc := Held.new w 51 #[.int .i64 (H.t : Int), .int .i64 (H.p : Int), .int .i64 (H.s : Int), .slice (some ad) n c]
  have HS : Hid (∀ w', Below w.heap.size w w' → Held w' w.heap.size 51 #[.int .i64 (H.t : Int), .int .i64 (H.p : Int), .int .i64 (H.s : Int), .slice (some ad) n c] → (fun w' => w'.cell? ⟨w.heap.size, 0, none⟩ = some (.int .i64 (H.t : Int)) ∧ w'.cell? ⟨w.heap.size, 1, none⟩ = some (.int .i64 (H.p : Int)) ∧ w'.cell? ⟨w.heap.size, 2, none⟩ = some (.int .i64 (H.s : Int)) ∧ w'.cell? ⟨w.heap.size, 3, none⟩ = some (.slice (some ad) n c) ∧ w'.cell? (ad.add i) = some (.int .u32 (v : Int))) w') := hidp (fun w' hb hh => ⟨hh.four.1, hh.four.2.1, hh.four.2.2.1, hh.four.2.2.2, (hb.cell hbl).trans hc0⟩)
  have hcx : c ≤ 9223372036854775807 := hn.2.2.2.2.2.2.2.2
  have hni : n ≤ 6238 := hn.2.2.2.2.2.2.1
  have hnc := HV.cap
  clear hv hc0 hbl hcel hvv hi hn hq
  unfold hpV
  go_enter Tryz.func49, Tryz.ntmps49
  go_wp2_with fail
  refine wp_region_held_drew (S := (fun w' => w'.cell? ⟨w.heap.size, 0, none⟩ = some (.int .i64 (H.t : Int)) ∧ w'.cell? ⟨w.heap.size, 1, none⟩ = some (.int .i64 (H.p : Int)) ∧ w'.cell? ⟨w.heap.size, 2, none⟩ = some (.int .i64 (H.s : Int)) ∧ w'.cell? ⟨w.heap.size, 3, none⟩ = some (.slice (some ad) n c) ∧ w'.cell? (ad.add i) = some (.int .u32 (v : Int)))) (by kernel_rfl) ?_ (fun hHeld => ?_)
  · (try dsimp only)
    first | exact HS.out _ (Bdrew (Bnew (B0 w) _)) hc | exact HS.out _ HB1.out HC1.out | exact hHeld
  refine tkz 0 ?_
  refine tkz 1 ?_
  refine tkz 2 ?_
  refine tkz 3 ?_
  refine tkz 4 ?_
  refine tkz 5 ?_
  refine wpAnyH_ready (rs := [6]) (by kernel_rfl) (by simp) ?_
  refine AllReadyH.cons (o := _) rfl (fun K hK => ?_) AllReadyH.nil
  go_simp
  (go_at_call 52; refine (plTaken_c _ _ _ _ _).mono ?_; rintro e w1 ⟨rfl, hb1⟩; rw [HI.out]; have HB1 := hidp (Bgo (Bdrew (Bnew (B0 w) _)) hb1); have HC1 := hidp (hc.drew.keep hb1); clear hb1)
  refine hK.out _ _ ?_ (fun hHeld => ?_)
  · (try dsimp only)
    first | exact HS.out _ (Bdrew (Bnew (B0 w) _)) hc | exact HS.out _ HB1.out HC1.out | exact hHeld
  clear hK K
  (try simp only [Act.put, gA, gB, gC, sA, sB, sC])
  refine tkz 7 ?_
  refine tkz 8 ?_
  refine tkz 9 ?_
  refine wpAnyH_done (by kernel_rfl) ?_ _
  go_wp2
  go_ret
  exact ⟨rfl, HB1.out⟩
end
end Go.Proofs.YtkbjckhbllmclaaGreatDoor

namespace Go.Proofs.YtkbjckhbllmclaaGreatDoor
open Go.ChangeShapes Go.WideShapes Go.ChangeAt Go.RowKit Go.Maps
set_option linter.unusedVariables false
section
structure Turns (F : Nat → Prop) (w w' : World) : Prop where
  os : w'.os = w.os
  tape : w'.tape = w.tape
  output : w'.output = w.output
  size : w.heap.size ≤ w'.heap.size
  block : ∀ i, i < w.heap.size → ¬ F i → w'.heap[i]? = w.heap[i]?

section
variable {F G : Nat → Prop} {w w' w'' : World}
theorem T0 (F : Nat → Prop) (w : World) : Turns F w w := ⟨rfl, rfl, rfl, Nat.le_refl _, fun _ _ _ => rfl⟩
theorem Turns.trans (h : Turns F w w') (k : Turns F w' w'') : Turns F w w'' :=
  ⟨k.os.trans h.os, k.tape.trans h.tape, k.output.trans h.output, Nat.le_trans h.size k.size, fun i hi hf => (k.block i (Nat.lt_of_lt_of_le hi h.size) hf).trans (h.block i hi hf)⟩
theorem Turns.more (h : Turns F w w') (hg : ∀ i, F i → G i) : Turns G w w' := ⟨h.os, h.tape, h.output, h.size, fun i hi hf => h.block i hi (fun x => hf (hg i x))⟩
theorem Turns.more_new {W : World} (h : Turns F w w') (hs : W.heap.size ≤ w.heap.size) (hb : Turns G W w) (hg : ∀ i, F i → G i ∨ W.heap.size ≤ i) : Turns G W w' :=
  ⟨h.os.trans hb.os, h.tape.trans hb.tape, h.output.trans hb.output, Nat.le_trans hs h.size, fun i hi hf => (h.block i (Nat.lt_of_lt_of_le hi hs) (fun x => by
    rcases hg i x with h1 | h1
    · exact hf h1
    · omega)).trans (hb.block i hi hf)⟩
theorem Turns.of_below (h : Below w.heap.size w w') (F : Nat → Prop) : Turns F w w' := ⟨h.os, h.tape, h.output, h.size, fun i hi _ => h.block i hi⟩
theorem Turns.of_grown {b : Nat} (h : w.grownBy w' (some b)) (hb : F b) : Turns F w w' := ⟨h.os, h.tape, h.output, h.size, fun i hi hf => h.block i hi (fun e => by injection e with e; subst e; exact hf hb)⟩
theorem Turns.draw (h : Turns F w w') (n : Nat) : Turns F w (w'.drewN n) := ⟨h.os, h.tape, h.output, h.size, h.block⟩
theorem Turns.drew (h : Turns F w w') : Turns F w w'.drew := ⟨h.os, h.tape, h.output, h.size, h.block⟩
theorem Turns.alloc (h : Turns F w w') (o : Obj) : Turns F w (w'.alloc o) := h.trans (Turns.of_below (Bnew (B0 _) o) F)
theorem Turns.put (h : Turns F w w') {p : Addr} (hp : F p.block) (u : Value) : Turns F w (w'.setCell p u) :=
  ⟨h.os, h.tape, h.output, by simp; exact h.size, fun i hi hf => (Below.heap_setCell w' p u i (fun e => by subst e; exact hf hp)).trans (h.block i hi hf)⟩
theorem Turns.put_new (h : Turns F w w') {p : Addr} (hp : w.heap.size ≤ p.block) (u : Value) : Turns F w (w'.setCell p u) :=
  ⟨h.os, h.tape, h.output, by simp; exact h.size, fun i hi hf => (Below.heap_setCell w' p u i (fun e => by omega)).trans (h.block i hi hf)⟩
theorem Turns.below {W : World} (h : Turns F w w') (hb : Below W.heap.size W w) (hf : ∀ i, F i → W.heap.size ≤ i) : Below W.heap.size W w' :=
  ⟨h.os.trans hb.os, h.tape.trans hb.tape, h.output.trans hb.output, Nat.le_trans hb.size h.size, fun i hi => (h.block i (Nat.lt_of_lt_of_le hi hb.size) (fun x => by have := hf i x; omega)).trans (hb.block i hi)⟩
theorem Turns.held {g : Nat} {t : TypeId} {cs : Array Value} (h : Turns F w w') (hg : Held w g t cs) (hf : ¬ F g) : Held w' g t cs := (h.block g hg.lt hf).trans hg
end

def updF {α : Type} (f : Nat → α) (i : Nat) (u : α) : Nat → α := fun j => if j = i then u else f j
theorem updF_same {α : Type} (f : Nat → α) (i : Nat) (u : α) : updF f i u i = u := if_pos rfl
theorem updF_other {α : Type} (f : Nat → α) {i j : Nat} (u : α) (h : j ≠ i) : updF f i u j = f j := if_neg h
def RowF (w : World) (g : Nat) (t : TypeId) (n c : Nat) (f : Nat → Value) : Prop :=
  ∃ cs : Array Value, Held w g t cs ∧ cs.size = c ∧ n ≤ c ∧ c ≤ maxLen ∧ ∀ i, i < n → cs[i]? = some (f i)

section
variable {w w' : World} {g : Nat} {t : TypeId} {n c : Nat} {f : Nat → Value}
theorem RowF.lt (h : RowF w g t n c f) : g < w.heap.size := by obtain ⟨cs, h1, _⟩ := h; exact h1.lt
theorem RowF.le (h : RowF w g t n c f) : n ≤ c := by obtain ⟨cs, _, _, h1, _⟩ := h; exact h1
theorem RowF.max (h : RowF w g t n c f) : c ≤ maxLen := by obtain ⟨cs, _, _, _, h1, _⟩ := h; exact h1
theorem RowF.cell (h : RowF w g t n c f) {i : Nat} (hi : i < n) : w.cell? ⟨g, i, none⟩ = some (f i) := by
  obtain ⟨cs, h1, _, _, _, h2⟩ := h
  exact (h1.cell i).trans (h2 i hi)
theorem RowF.thawed (h : RowF w g t n c f) (i : Nat) : w.frozen? ⟨g, i, none⟩ = false := by obtain ⟨cs, h1, _⟩ := h; exact h1.thawed i
theorem RowF.same (h : RowF w g t n c f) (hb : w'.heap[g]? = w.heap[g]?) : RowF w' g t n c f := by
  obtain ⟨cs, h1, r⟩ := h
  exact ⟨cs, hb.trans h1, r⟩
theorem RowF.turns {F : Nat → Prop} (h : RowF w g t n c f) (hb : Turns F w w') (hf : ¬ F g) : RowF w' g t n c f := h.same (hb.block g h.lt hf)
theorem RowF.keep (h : RowF w g t n c f) (hb : Below w.heap.size w w') : RowF w' g t n c f := h.same (hb.block g h.lt)
theorem RowF.put (h : RowF w g t n c f) {i : Nat} (hi : i < n) (u : Value) : RowF (w.setCell ⟨g, i, none⟩ u) g t n c (updF f i u) := by
  obtain ⟨cs, h1, h2, h3, h4, h5⟩ := h
  refine ⟨_, h1.put i u, by simp [h2], h3, h4, fun j hj => ?_⟩
  by_cases e : j = i
  · subst e
    rw [updF_same]
    simp [Array.getElem?_setIfInBounds]
    omega
  · rw [updF_other _ _ e, Array.getElem?_setIfInBounds_ne (by omega)]
    exact h5 j hj
theorem RowF.far (h : RowF w g t n c f) {p : Addr} (hp : g ≠ p.block) (u : Value) : RowF (w.setCell p u) g t n c f := h.same (Below.heap_setCell w p u g hp)
theorem RowF.congr {f' : Nat → Value} (h : RowF w g t n c f) (e : ∀ i, i < n → f i = f' i) : RowF w g t n c f' := by
  obtain ⟨cs, h1, h2, h3, h4, h5⟩ := h
  exact ⟨cs, h1, h2, h3, h4, fun i hi => by rw [h5 i hi, e i hi]⟩
theorem RowF.of_own {base : Nat} {e : TypeId} {cap : Nat} (h : w.ownsRow base e 1 (.slice (some ⟨g, 0, none⟩) n cap) n ((List.range n).map f)) : base ≤ g ∧ RowF w g e n cap f := by
  rcases h.2 with ⟨h1, _⟩ | ⟨g', cap', cur, hv, hb, hg, hnc, hcm, hcs, htake⟩
  · cases h1
  · injection hv with h1 h2 h3
    injection h1 with h1
    injection h1 with h1
    subst h1
    subst h3
    refine ⟨hb, cur, hg, by simpa using hcs, by omega, by omega, fun i hi => ?_⟩
    have h4 := h.cellAt i (by omega)
    rw [Held.cell hg i] at h4
    rw [h4]
    simp [hi]
theorem RowF.reads (h : RowF w g t n c f) {B : Nat} (hB : g < B) : Reads w B 1 (some ⟨g, 0, none⟩) n ((List.range n).map f) := by
  refine ⟨by simp, fun hn => ⟨_, rfl, hB, fun j u hu => ?_⟩⟩
  have hj : j < n := by
    rcases Nat.lt_or_ge j n with h1 | h1
    · exact h1
    · rw [List.getElem?_eq_none (by simp; omega)] at hu; cases hu
  have e : (⟨g, 0, none⟩ : Addr).add j = ⟨g, j, none⟩ := by
    unfold Addr.add
    by_cases hz : j = 0
    · rw [if_pos hz, hz]
    · rw [if_neg hz]; simp
  rw [e, h.cell hj]
  rw [List.getElem?_map, List.getElem?_range hj] at hu
  exact hu
end

section
variable {H : Type} {P : Program} {k : TypeId} {R : Value → Option (DataW H × List MemPlace)} {w : World} {b n : Nat} {D : DataW H}
theorem owns_turns {F : Nat → Prop} {w' : World} (h : w.ownsMap P k R b n D) (hb : Turns F w w') (hf : ¬ F b) : w'.ownsMap P k R b n D := by
  have hlt := h.lt
  obtain ⟨es, clock, h1, r⟩ := h
  exact ⟨es, clock, (hb.block b hlt hf).trans h1, r⟩
end
section
variable {H : Type} {P : Program} (w : World) {ops : Array Oper} {rest : List Oper} {o : Oper} {a : Act} {Q : Exit → Act → World → Prop}
end
end
end Go.Proofs.YtkbjckhbllmclaaGreatDoor
