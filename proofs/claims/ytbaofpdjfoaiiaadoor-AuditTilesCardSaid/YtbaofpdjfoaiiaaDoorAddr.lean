/-
  Contracts of addr's and nacreref06's functions.
-/
import Derived.Test.YtbaofpdjfoaiiaaDoorClass
import Derived.Test.YtbaofpdjfoaiiaaDoorAddrMath
import Derived.RegionTactic
import Derived.ChangeAlike
namespace Go.Proofs.YtbaofpdjfoaiiaaDoor
open Go.ChangeShapes Go.WideShapes Go.ChangeAt Go.RowKit
set_option linter.unusedVariables false
set_option linter.unusedSimpArgs false

theorem ret_ib {k : IntKind} {a b : Int} {c d : Bool} (h : a = b) (h2 : c = d) : Ending.returned (.tuple #[.int k a, .bool c]) = .returned (.tuple #[.int k b, .bool d]) := by rw [h, h2]
theorem ret_iib {k l : IntKind} {a b a' b' : Int} {c d : Bool} (h : a = b) (h1 : a' = b') (h2 : c = d) : Ending.returned (.tuple #[.int k a, .int l a', .bool c]) = .returned (.tuple #[.int k b, .int l b', .bool d]) := by rw [h, h1, h2]
theorem spot_eq (t p s a : Int) (g b : Nat) (hg : pageN t p s = g) (hb : bytesN t p s = b) : spotB t p s a = decide ((g : Int) ≤ a ∧ a - g < (b : Int)) := by unfold spotB; rw [hg, hb]
theorem bytes_pos {t p s : Int} {b : Nat} (hb : bytesN t p s = b) (h : 0 < b) : ∃ g : Nat, pageN t p s = g ∧ 1024 ≤ g ∧ g ≤ 1048576 := by
  cases hr : rightB t p s
  · have := bytes_no hr; omega
  · obtain ⟨g, q, hg, _, _, _, _, g1, g2, _⟩ := right_nums hr
    exact ⟨g, hg, g1, g2⟩
theorem page_le (t p s : Int) : pageN t p s ≤ 1048576 := by
  cases hr : rightB t p s
  · rw [page_no hr]; omega
  · obtain ⟨g, q, hg, _, _, _, _, g1, g2, _⟩ := right_nums hr
    omega
theorem bytes_le (t p s : Int) : bytesN t p s ≤ 1073741824 := by
  cases hr : rightB t p s
  · rw [bytes_no hr]; omega
  · obtain ⟨g, q, _, _, hb, _, _, _, _, _, _, _, h⟩ := right_nums hr
    omega

theorem adAddress_c (i o : Int) (g : Nat) (w : World) :
    Calls Tryd.prog 53 #[.agg #[.int .i64 i, .int .i64 o], .int .i64 (g : Int)] w fun e w' => e = .returned (.int .i64 (addrW i o g)) ∧ Below w.heap.size w w' := by
  go_enter Tryd.func53, Tryd.ntmps53
  go_wp2
  go_ret
  refine ⟨ret_int ?_, ?_⟩
  · unfold addrW
    simp only [IntWalk.i64_left]
  · repeat (first | exact B0 _ | (with_reducible refine Bgo ?_ (by assumption)) | (with_reducible refine Bdrew ?_) | (with_reducible refine Bdraw ?_ _) | (with_reducible refine Bnew ?_ _) | (with_reducible refine Bput ?_ (by first | (simp; done) | (simp; omega)) _))

set_option maxHeartbeats 1600000 in
theorem adSpotOf_c (t p s a : Int) (h0 : -9223372036854775808 ≤ a) (h1 : a ≤ 9223372036854775807) (w : World) :
    Calls Tryd.prog 55 #[.agg #[.int .i64 t, .int .i64 p, .int .i64 s], .int .i64 a] w fun e w' => e = .returned (.tuple #[.agg #[.int .i64 (spotP t p s a), .int .i64 (spotO t p s a)], .bool (spotB t p s a)]) ∧ Below w.heap.size w w' := by
  obtain ⟨g, hg⟩ : ∃ g, pageN t p s = g := ⟨_, rfl⟩
  obtain ⟨b, hb⟩ : ∃ b, bytesN t p s = b := ⟨_, rfl⟩
  have hE := spot_eq t p s a g b hg hb
  have g2 := hg ▸ page_le t p s
  have b2 := hb ▸ bytes_le t p s
  have HG := hidp hg
  have HB := hidp hb
  have hc := (Held.new w 23 #[.int .i64 t, .int .i64 p, .int .i64 s]).alloc (.cells #[.int .i64 0, .int .i64 0] 80)
  have hz := Held.new2 w (.cells #[.int .i64 t, .int .i64 p, .int .i64 s] 23) 80 #[.int .i64 0, .int .i64 0]
  by_cases c1 : a < (g : Int)
  · have hN : spotB t p s a = false := by rw [hE, decide_eq_false_iff_not]; omega
    have HN := hidp hN
    have HZ := hidp (spot_no hN)
    clear hg hb hE hN
    go_enter Tryd.func55, Tryd.ntmps55
    go_wp2_with fail
    refine (cfPage_c t p s _).mono ?_
    rintro e w1 ⟨rfl, hb1⟩
    rw [HG.out]
    obtain ⟨z0, z1⟩ := (hz.keep hb1).two
    have f0 := (hz.keep hb1).thawed 0
    have f1 := (hz.keep hb1).thawed 1
    go_wp2
    refine bodyPost_ret (v := .tuple #[.agg #[.int .i64 0, .int .i64 0], .bool false]) (by simp [results, Tryd.results55, go_sem, z0, z1]) rfl ⟨?_, ?_⟩
    · rw [HN.out, HZ.out.1, HZ.out.2]
    repeat (first | exact B0 _ | (with_reducible refine Bgo ?_ (by assumption)) | (with_reducible refine Bdrew ?_) | (with_reducible refine Bdraw ?_ _) | (with_reducible refine Bnew ?_ _) | (with_reducible refine Bput ?_ (by first | (simp; done) | (simp; omega)) _))
  · by_cases c2 : a - (g : Int) < (b : Int)
    · have hY : spotB t p s a = true := by rw [hE, decide_eq_true_iff]; omega
      obtain ⟨g', hg', g1, _⟩ := bytes_pos hb (by omega)
      have g1 : 1024 ≤ g := by omega
      have hP : spotP t p s a = a / (g : Int) - 1 := by unfold spotP; rw [if_pos hY, hg]
      have hO : spotO t p s a = a % (g : Int) := by unfold spotO; rw [if_pos hY, hg]
      have hpp := spot_parts hY
      rw [hP, hO] at hpp
      obtain ⟨_, _, a1, a2, ⟨d1, d2⟩, o1, o2⟩ := hpp
      have q1 : a.tdiv (g : Int) = a / (g : Int) := Int.tdiv_eq_ediv_of_nonneg (by omega)
      have q2 : a.tmod (g : Int) = a % (g : Int) := Int.tmod_eq_emod_of_nonneg (by omega)
      obtain ⟨d, hd⟩ : ∃ d, a / (g : Int) = d := ⟨_, rfl⟩
      obtain ⟨m, hm⟩ : ∃ m, a % (g : Int) = m := ⟨_, rfl⟩
      rw [hd] at hP d1 d2 q1
      rw [hm] at hO o1 o2 q2
      have HY := hidp hY
      have HP := hidp hP
      have HO := hidp hO
      have g3 : ¬ g = 0 := by omega
      have g4 : ((g : Int) == 0) = false := by simp; omega
      clear hg hb hE hY hP hO hg' hd hm
      go_enter Tryd.func55, Tryd.ntmps55
      go_wp2_with fail
      refine (cfPage_c t p s _).mono ?_
      rintro e w1 ⟨rfl, hb1⟩
      rw [HG.out]
      have hc1 := hc.keep hb1
      obtain ⟨x0, x1, x2⟩ := hc1.three
      go_wp2_with fail
      refine (cfBytes_c t p s _).mono ?_
      rintro e w2 ⟨rfl, hb2⟩
      rw [HB.out]
      obtain ⟨z0, z1⟩ := ((hz.keep hb1).keep hb2).two
      have f0 := ((hz.keep hb1).keep hb2).thawed 0
      have f1 := ((hz.keep hb1).keep hb2).thawed 1
      go_wp2
      go_region
      go_wp2
      refine bodyPost_ret (v := .tuple #[.agg #[.int .i64 (d - 1), .int .i64 m], .bool true]) (by simp [results, Tryd.results55, go_sem, z0, z1]) rfl ⟨?_, ?_⟩
      · rw [HY.out, HP.out, HO.out]
      repeat (first | exact B0 _ | (with_reducible refine Bgo ?_ (by assumption)) | (with_reducible refine Bdrew ?_) | (with_reducible refine Bdraw ?_ _) | (with_reducible refine Bnew ?_ _) | (with_reducible refine Bput ?_ (by first | (simp; done) | (simp; omega)) _))
    · have hN : spotB t p s a = false := by rw [hE, decide_eq_false_iff_not]; omega
      have HN := hidp hN
      have HZ := hidp (spot_no hN)
      clear hg hb hE hN
      go_enter Tryd.func55, Tryd.ntmps55
      go_wp2_with fail
      refine (cfPage_c t p s _).mono ?_
      rintro e w1 ⟨rfl, hb1⟩
      rw [HG.out]
      have hc1 := hc.keep hb1
      obtain ⟨x0, x1, x2⟩ := hc1.three
      go_wp2_with fail
      refine (cfBytes_c t p s _).mono ?_
      rintro e w2 ⟨rfl, hb2⟩
      rw [HB.out]
      obtain ⟨z0, z1⟩ := ((hz.keep hb1).keep hb2).two
      have f0 := ((hz.keep hb1).keep hb2).thawed 0
      have f1 := ((hz.keep hb1).keep hb2).thawed 1
      go_wp2
      refine bodyPost_ret (v := .tuple #[.agg #[.int .i64 0, .int .i64 0], .bool false]) (by simp [results, Tryd.results55, go_sem, z0, z1]) rfl ⟨?_, ?_⟩
      · rw [HN.out, HZ.out.1, HZ.out.2]
      repeat (first | exact B0 _ | (with_reducible refine Bgo ?_ (by assumption)) | (with_reducible refine Bdrew ?_) | (with_reducible refine Bdraw ?_ _) | (with_reducible refine Bnew ?_ _) | (with_reducible refine Bput ?_ (by first | (simp; done) | (simp; omega)) _))

theorem addrW_range (i o : Int) (g : Nat) : -9223372036854775808 ≤ addrW i o g ∧ addrW i o g ≤ 9223372036854775807 := by
  unfold addrW
  generalize IntKind.i64.wrap (IntKind.i64.wrap (i + 1) * (g : Int)) + o = x
  simp only [IntKind.wrap, IntKind.bits, IntKind.signed]
  simp
  omega

set_option maxHeartbeats 1600000 in
theorem adOf_yes (t p s i o : Int) (h : addrB t p s i o = true) (w : World) :
    Calls Tryd.prog 29 #[.agg #[.int .i64 t, .int .i64 p, .int .i64 s], .int .i64 i, .int .i64 o] w fun e w' => e = .returned (.tuple #[.int .i64 (addrI t p s i o), .bool (addrB t p s i o)]) ∧ Below w.heap.size w w' := by
  obtain ⟨a, ha⟩ : ∃ a, addrI t p s i o = a := ⟨_, rfl⟩
  have hy := addr_yes h
  rw [ha] at hy
  have HY := hidp hy
  have HA := hidp ha
  have HB := hidp h
  obtain ⟨_, _, _, _, a1, a2⟩ := hy
  clear ha h
  have hc := (Held.new w 23 #[.int .i64 t, .int .i64 p, .int .i64 s]).alloc (.cells #[.int .i64 i, .int .i64 o] 80)
  have hz := Held.new2 w (.cells #[.int .i64 t, .int .i64 p, .int .i64 s] 23) 80 #[.int .i64 i, .int .i64 o]
  go_enter Tryd.func29, Tryd.ntmps29
  go_wp2_with fail
  have c3 := hc.three
  have c2 := hz.two
  go_region_held3 (fun w' => w'.cell? ⟨w.heap.size, 0, none⟩ = some (.int .i64 t) ∧ w'.cell? ⟨w.heap.size, 1, none⟩ = some (.int .i64 p) ∧ w'.cell? ⟨w.heap.size, 2, none⟩ = some (.int .i64 s) ∧ w'.cell? ⟨w.heap.size + 1, 0, none⟩ = some (.int .i64 i) ∧ w'.cell? ⟨w.heap.size + 1, 1, none⟩ = some (.int .i64 o))
    (first | exact ⟨c3.1, c3.2.1, c3.2.2, c2.1, c2.2⟩ | go_keep | exact ⟨hst _ _ (by assumption), hst _ _ (by assumption), hst _ _ (by assumption), hst _ _ (by assumption), hst _ _ (by assumption)⟩)
    (first
      | (go_at_call 54; refine (cfPage_c t p s _).mono ?_; rintro e w' ⟨rfl, hbl⟩; have hst := cells_stay hbl)
      | (go_at_call 53; refine (adAddress_c i o (pageN t p s) _).mono ?_; rintro e w'' ⟨rfl, hbl2⟩; rw [HY.out.1]; have hst := cells_stay hbl2))
  have hc2 := ((Held.drewN hc 1).keep hbl).keep hbl2
  have hz2 := ((Held.drewN hz 1).keep hbl).keep hbl2
  clear c3 c2
  have c3 := hc2.three
  go_wp2_with fail
  refine (adSpotOf_c t p s a (by omega) (by omega) _).mono ?_
  rintro e w3 ⟨rfl, hb3⟩
  rw [HY.out.2.1, HY.out.2.2.1, HY.out.2.2.2.1]
  have hz3 := hz2.keep hb3
  obtain ⟨y0, y1⟩ := (hz3.alloc (.cells #[.int .i64 i, .int .i64 o] 80)).two
  go_wp2
  go_ret2
  refine ⟨by rw [HA.out, HB.out]; rfl, ?_⟩
  change Below w.heap.size w _
  have hbl : Below ((w.alloc (.cells #[.int .i64 t, .int .i64 p, .int .i64 s] 23)).alloc (.cells #[.int .i64 i, .int .i64 o] 80)).heap.size ((w.alloc (.cells #[.int .i64 t, .int .i64 p, .int .i64 s] 23)).alloc (.cells #[.int .i64 i, .int .i64 o] 80)) w' := below_draws_left (n := 1) hbl
  repeat (first | exact B0 _ | (with_reducible refine Bgo ?_ (by assumption)) | (with_reducible refine Bdrew ?_) | (with_reducible refine Bdraw ?_ _) | (with_reducible refine Bnew ?_ _) | (with_reducible refine Bput ?_ (by first | (simp; done) | (simp; omega)) _))

set_option maxHeartbeats 1600000 in
theorem adOf_no (t p s i o : Int) (h : addrB t p s i o = false) (w : World) :
    Calls Tryd.prog 29 #[.agg #[.int .i64 t, .int .i64 p, .int .i64 s], .int .i64 i, .int .i64 o] w fun e w' => e = .returned (.tuple #[.int .i64 (addrI t p s i o), .bool (addrB t p s i o)]) ∧ Below w.heap.size w w' := by
  obtain ⟨a, ha⟩ : ∃ a, addrW i o (pageN t p s) = a := ⟨_, rfl⟩
  have hr := addrW_range i o (pageN t p s)
  rw [ha] at hr
  obtain ⟨a1, a2⟩ := hr
  have HW := hidp ha
  have HA := hidp (addrI_no h)
  have HB := hidp h
  have hc := (Held.new w 23 #[.int .i64 t, .int .i64 p, .int .i64 s]).alloc (.cells #[.int .i64 i, .int .i64 o] 80)
  have hz := Held.new2 w (.cells #[.int .i64 t, .int .i64 p, .int .i64 s] 23) 80 #[.int .i64 i, .int .i64 o]
  cases hs : spotB t p s a
  · obtain ⟨z1, z2⟩ := spot_no hs
    have HS := hidp hs
    have HP := hidp z1
    have HO := hidp z2
    clear ha h hs z1 z2
    go_enter Tryd.func29, Tryd.ntmps29
    go_wp2_with fail
    have c3 := hc.three
    have c2 := hz.two
    go_region_held3 (fun w' => w'.cell? ⟨w.heap.size, 0, none⟩ = some (.int .i64 t) ∧ w'.cell? ⟨w.heap.size, 1, none⟩ = some (.int .i64 p) ∧ w'.cell? ⟨w.heap.size, 2, none⟩ = some (.int .i64 s) ∧ w'.cell? ⟨w.heap.size + 1, 0, none⟩ = some (.int .i64 i) ∧ w'.cell? ⟨w.heap.size + 1, 1, none⟩ = some (.int .i64 o))
      (first | exact ⟨c3.1, c3.2.1, c3.2.2, c2.1, c2.2⟩ | go_keep | exact ⟨hst _ _ (by assumption), hst _ _ (by assumption), hst _ _ (by assumption), hst _ _ (by assumption), hst _ _ (by assumption)⟩)
      (first
        | (go_at_call 54; refine (cfPage_c t p s _).mono ?_; rintro e w' ⟨rfl, hbl⟩; have hst := cells_stay hbl)
        | (go_at_call 53; refine (adAddress_c i o (pageN t p s) _).mono ?_; rintro e w'' ⟨rfl, hbl2⟩; rw [HW.out]; have hst := cells_stay hbl2))
    have hc2 := ((Held.drewN hc 1).keep hbl).keep hbl2
    have hz2 := ((Held.drewN hz 1).keep hbl).keep hbl2
    clear c3 c2
    have c3 := hc2.three
    go_wp2_with fail
    refine (adSpotOf_c t p s a (by omega) (by omega) _).mono ?_
    rintro e w3 ⟨rfl, hb3⟩
    rw [HS.out, HP.out, HO.out]
    have hz3 := hz2.keep hb3
    obtain ⟨y0, y1⟩ := (hz3.alloc (.cells #[.int .i64 0, .int .i64 0] 80)).two
    go_wp2
    go_ret2
    refine ⟨by rw [HA.out, HB.out]; rfl, ?_⟩
    change Below w.heap.size w _
    have hbl : Below ((w.alloc (.cells #[.int .i64 t, .int .i64 p, .int .i64 s] 23)).alloc (.cells #[.int .i64 i, .int .i64 o] 80)).heap.size ((w.alloc (.cells #[.int .i64 t, .int .i64 p, .int .i64 s] 23)).alloc (.cells #[.int .i64 i, .int .i64 o] 80)) w' := below_draws_left (n := 1) hbl
    repeat (first | exact B0 _ | (with_reducible refine Bgo ?_ (by assumption)) | (with_reducible refine Bdrew ?_) | (with_reducible refine Bdraw ?_ _) | (with_reducible refine Bnew ?_ _) | (with_reducible refine Bput ?_ (by first | (simp; done) | (simp; omega)) _))
  · have hne := addr_no h hs
    obtain ⟨d, hd⟩ : ∃ d, spotP t p s a = d := ⟨_, rfl⟩
    obtain ⟨m, hm⟩ : ∃ m, spotO t p s a = m := ⟨_, rfl⟩
    rw [hd, hm] at hne
    have HS := hidp hs
    have HP := hidp hd
    have HO := hidp hm
    clear ha h hs hd hm
    by_cases hdi : d = i
    · subst hdi
      have hmo : ¬ m = o := fun h => hne ⟨rfl, h⟩
      have hmo2 : (m == o) = false := by simpa using hmo
      clear hne
      go_enter Tryd.func29, Tryd.ntmps29
      go_wp2_with fail
      have c3 := hc.three
      have c2 := hz.two
      go_region_held3 (fun w' => w'.cell? ⟨w.heap.size, 0, none⟩ = some (.int .i64 t) ∧ w'.cell? ⟨w.heap.size, 1, none⟩ = some (.int .i64 p) ∧ w'.cell? ⟨w.heap.size, 2, none⟩ = some (.int .i64 s) ∧ w'.cell? ⟨w.heap.size + 1, 0, none⟩ = some (.int .i64 d) ∧ w'.cell? ⟨w.heap.size + 1, 1, none⟩ = some (.int .i64 o))
        (first | exact ⟨c3.1, c3.2.1, c3.2.2, c2.1, c2.2⟩ | go_keep | exact ⟨hst _ _ (by assumption), hst _ _ (by assumption), hst _ _ (by assumption), hst _ _ (by assumption), hst _ _ (by assumption)⟩)
        (first
          | (go_at_call 54; refine (cfPage_c t p s _).mono ?_; rintro e w' ⟨rfl, hbl⟩; have hst := cells_stay hbl)
          | (go_at_call 53; refine (adAddress_c d o (pageN t p s) _).mono ?_; rintro e w'' ⟨rfl, hbl2⟩; rw [HW.out]; have hst := cells_stay hbl2))
      have hc2 := ((Held.drewN hc 1).keep hbl).keep hbl2
      have hz2 := ((Held.drewN hz 1).keep hbl).keep hbl2
      clear c3 c2
      have c3 := hc2.three
      go_wp2_with fail
      refine (adSpotOf_c t p s a (by omega) (by omega) _).mono ?_
      rintro e w3 ⟨rfl, hb3⟩
      rw [HS.out, HP.out, HO.out]
      have hz3 := hz2.keep hb3
      obtain ⟨y0, y1⟩ := (hz3.alloc (.cells #[.int .i64 d, .int .i64 m] 80)).two
      go_wp2
      go_ret2
      refine ⟨by rw [HA.out, HB.out]; rfl, ?_⟩
      change Below w.heap.size w _
      have hbl : Below ((w.alloc (.cells #[.int .i64 t, .int .i64 p, .int .i64 s] 23)).alloc (.cells #[.int .i64 d, .int .i64 o] 80)).heap.size ((w.alloc (.cells #[.int .i64 t, .int .i64 p, .int .i64 s] 23)).alloc (.cells #[.int .i64 d, .int .i64 o] 80)) w' := below_draws_left (n := 1) hbl
      repeat (first | exact B0 _ | (with_reducible refine Bgo ?_ (by assumption)) | (with_reducible refine Bdrew ?_) | (with_reducible refine Bdraw ?_ _) | (with_reducible refine Bnew ?_ _) | (with_reducible refine Bput ?_ (by first | (simp; done) | (simp; omega)) _))
    · have hdi2 : (d == i) = false := by simpa using hdi
      clear hne
      go_enter Tryd.func29, Tryd.ntmps29
      go_wp2_with fail
      have c3 := hc.three
      have c2 := hz.two
      go_region_held3 (fun w' => w'.cell? ⟨w.heap.size, 0, none⟩ = some (.int .i64 t) ∧ w'.cell? ⟨w.heap.size, 1, none⟩ = some (.int .i64 p) ∧ w'.cell? ⟨w.heap.size, 2, none⟩ = some (.int .i64 s) ∧ w'.cell? ⟨w.heap.size + 1, 0, none⟩ = some (.int .i64 i) ∧ w'.cell? ⟨w.heap.size + 1, 1, none⟩ = some (.int .i64 o))
        (first | exact ⟨c3.1, c3.2.1, c3.2.2, c2.1, c2.2⟩ | go_keep | exact ⟨hst _ _ (by assumption), hst _ _ (by assumption), hst _ _ (by assumption), hst _ _ (by assumption), hst _ _ (by assumption)⟩)
        (first
          | (go_at_call 54; refine (cfPage_c t p s _).mono ?_; rintro e w' ⟨rfl, hbl⟩; have hst := cells_stay hbl)
          | (go_at_call 53; refine (adAddress_c i o (pageN t p s) _).mono ?_; rintro e w'' ⟨rfl, hbl2⟩; rw [HW.out]; have hst := cells_stay hbl2))
      have hc2 := ((Held.drewN hc 1).keep hbl).keep hbl2
      have hz2 := ((Held.drewN hz 1).keep hbl).keep hbl2
      clear c3 c2
      have c3 := hc2.three
      go_wp2_with fail
      refine (adSpotOf_c t p s a (by omega) (by omega) _).mono ?_
      rintro e w3 ⟨rfl, hb3⟩
      rw [HS.out, HP.out, HO.out]
      have hz3 := hz2.keep hb3
      obtain ⟨y0, y1⟩ := (hz3.alloc (.cells #[.int .i64 d, .int .i64 m] 80)).two
      go_wp2
      go_ret2
      refine ⟨by rw [HA.out, HB.out]; rfl, ?_⟩
      change Below w.heap.size w _
      have hbl : Below ((w.alloc (.cells #[.int .i64 t, .int .i64 p, .int .i64 s] 23)).alloc (.cells #[.int .i64 i, .int .i64 o] 80)).heap.size ((w.alloc (.cells #[.int .i64 t, .int .i64 p, .int .i64 s] 23)).alloc (.cells #[.int .i64 i, .int .i64 o] 80)) w' := below_draws_left (n := 1) hbl
      repeat (first | exact B0 _ | (with_reducible refine Bgo ?_ (by assumption)) | (with_reducible refine Bdrew ?_) | (with_reducible refine Bdraw ?_ _) | (with_reducible refine Bnew ?_ _) | (with_reducible refine Bput ?_ (by first | (simp; done) | (simp; omega)) _))

theorem adOf_c (t p s i o : Int) (w : World) :
    Calls Tryd.prog 29 #[.agg #[.int .i64 t, .int .i64 p, .int .i64 s], .int .i64 i, .int .i64 o] w fun e w' => e = .returned (.tuple #[.int .i64 (addrI t p s i o), .bool (addrB t p s i o)]) ∧ Below w.heap.size w w' := by
  cases h : addrB t p s i o
  · exact h ▸ adOf_no t p s i o h w
  · exact h ▸ adOf_yes t p s i o h w

end Go.Proofs.YtbaofpdjfoaiiaaDoor
