/-
  Contracts of place's functions.
-/
import Derived.Test.YtpndfhdedmdoeaaPlaceMath
namespace Go.Proofs.Ytpndfhdedmdoeaa
open Go.ChangeShapes Go.WideShapes Go.ChangeAt Go.RowKit
set_option linter.unusedVariables false
set_option linter.unusedSimpArgs false

theorem Held.seven {w : World} {g : Nat} {t : TypeId} {c0 c1 c2 c3 c4 c5 c6 : Value} (h : Held w g t #[c0, c1, c2, c3, c4, c5, c6]) : w.cell? ⟨g, 0, none⟩ = some c0 ∧ w.cell? ⟨g, 1, none⟩ = some c1 ∧ w.cell? ⟨g, 2, none⟩ = some c2 ∧ w.cell? ⟨g, 3, none⟩ = some c3 ∧ w.cell? ⟨g, 4, none⟩ = some c4 ∧ w.cell? ⟨g, 5, none⟩ = some c5 ∧ w.cell? ⟨g, 6, none⟩ = some c6 :=
  ⟨h.cell 0, h.cell 1, h.cell 2, h.cell 3, h.cell 4, h.cell 5, h.cell 6⟩
theorem Held.thawed7 {w : World} {g : Nat} {t : TypeId} {cs : Array Value} (h : Held w g t cs) : w.frozen? ⟨g, 0, none⟩ = false ∧ w.frozen? ⟨g, 1, none⟩ = false ∧ w.frozen? ⟨g, 2, none⟩ = false ∧ w.frozen? ⟨g, 3, none⟩ = false ∧ w.frozen? ⟨g, 4, none⟩ = false ∧ w.frozen? ⟨g, 5, none⟩ = false ∧ w.frozen? ⟨g, 6, none⟩ = false :=
  ⟨h.thawed 0, h.thawed 1, h.thawed 2, h.thawed 3, h.thawed 4, h.thawed 5, h.thawed 6⟩

theorem plNth_c (f n e i : Int) (f0 : -1 ≤ f) (f1 : f ≤ 20000) (n0 : 0 ≤ n) (n1 : n ≤ 10000) (e0 : 0 ≤ e) (e1 : e ≤ 120) (w : World) :
    Calls Try.prog 68 #[.int .i64 f, .int .i64 n, .int .i64 e, .int .i64 i] w fun z w' => z = .returned (.int .i64 (nthI f n e i)) ∧ w = w' := by
  by_cases c0 : f = -1
  · subst c0
    have HN := hidp (nth_off (f := -1) (n := n) (e := e) (i := i) (.inl rfl))
    go_enter Try.func68, Try.ntmps68
    go_wp2
    go_ret
    exact ⟨by rw [HN.out]; rfl, rfl⟩
  · have q0 : (f == -1) = false := by simpa using c0
    by_cases c1 : i < 0
    · have HN := hidp (nth_off (f := f) (n := n) (e := e) (i := i) (.inr (.inl c1)))
      go_enter Try.func68, Try.ntmps68
      go_wp2
      go_ret
      exact ⟨by rw [HN.out]; rfl, rfl⟩
    · by_cases c2 : n ≤ i
      · have HN := hidp (nth_off (f := f) (n := n) (e := e) (i := i) (.inr (.inr c2)))
        go_enter Try.func68, Try.ntmps68
        go_wp2
        go_ret
        exact ⟨by rw [HN.out]; rfl, rfl⟩
      · have HN := hidp (nth_on (f := f) (n := n) (e := e) (i := i) c0 (by omega) (by omega))
        have p0 : 0 ≤ i * e := Int.mul_nonneg (by omega) e0
        have p1 : i * e ≤ 10000 * 120 := Int.mul_le_mul (by omega) e1 e0 (by omega)
        obtain ⟨y, hy⟩ : ∃ y, i * e = y := ⟨_, rfl⟩
        have HY := hidp hy
        rw [hy] at p0 p1
        go_enter Try.func68, Try.ntmps68
        go_wp2
        go_ret
        exact ⟨by rw [HN.out, HY.out]; rfl, rfl⟩

theorem plLine_c (i : Nat) (h : i ≤ 10000) (w : World) :
    Calls Try.prog 116 #[.int .i64 (i : Int)] w fun z w' => z = .returned (.int .i64 (((i + 7) / 8 * 8 : Nat) : Int)) ∧ w = w' := by
  go_enter Try.func116, Try.ntmps116
  go_wp2
  go_ret
  refine ⟨ret_int ?_, rfl⟩
  simp
  omega
theorem plLineI_c (i y : Int) (h0 : 0 ≤ i) (h : i ≤ 10000) (hy : (i + 7) / 8 * 8 = y) (w : World) :
    Calls Try.prog 116 #[.int .i64 i] w fun z w' => z = .returned (.int .i64 y) ∧ w = w' := by
  obtain ⟨n, rfl⟩ : ∃ n : Nat, i = n := ⟨i.toNat, by omega⟩
  have e : y = (((n + 7) / 8 * 8 : Nat) : Int) := by omega
  rw [e]
  exact plLine_c n (by omega) w

set_option maxHeartbeats 1600000 in
theorem plLayout_no (t p s : Int) (hr : rightB t p s = false) (w : World) :
    Calls Try.prog 99 #[.agg #[.int .i64 t, .int .i64 p, .int .i64 s]] w fun z w' => z = .returned (.agg #[.int .i64 0, .int .i64 0, .int .i64 0, .int .i64 0, .int .i64 0, .int .i64 0, .int .i64 0]) ∧ Below w.heap.size w w' := by
  have HK := hidp (check_no hr)
  have hl := Held.new2 w (.cells #[.int .i64 t, .int .i64 p, .int .i64 s] 23) 117 #[.int .i64 0, .int .i64 0, .int .i64 0, .int .i64 0, .int .i64 0, .int .i64 0, .int .i64 0]
  clear hr
  go_enter Try.func99, Try.ntmps99
  go_wp2_with fail
  refine (cfCheck_c t p s _).mono ?_
  rintro e w1 ⟨rfl, hb1⟩
  rw [HK.out]
  have hz := hb1.size
  have hl1 := hl.keep hb1
  obtain ⟨z0, z1, z2, z3, z4, z5, z6⟩ := hl1.seven
  obtain ⟨f0, f1, f2, f3, f4, f5, f6⟩ := hl1.thawed7
  go_wp2
  refine bodyPost_ret (v := .agg #[.int .i64 0, .int .i64 0, .int .i64 0, .int .i64 0, .int .i64 0, .int .i64 0, .int .i64 0]) (by simp [results, Try.results99, go_sem, z0, z1, z2, z3, z4, z5, z6]) rfl ⟨rfl, ?_⟩
  exact Bput (Bput (Bput (Bput (Bput (Bput (Bput (Bgo (Bnew (Bnew (B0 _) _) _) hb1) (Nat.le_succ _) _) (Nat.le_succ _) _) (Nat.le_succ _) _) (Nat.le_succ _) _) (Nat.le_succ _) _) (Nat.le_succ _) _) (Nat.le_succ _) _

set_option maxHeartbeats 1600000 in
theorem plLayout_yes (a b : Nat) (s : Int) (hr : rightB a b s = true) (w : World) :
    Calls Try.prog 99 #[.agg #[.int .i64 (a : Int), .int .i64 (b : Int), .int .i64 s]] w fun z w' => z = .returned (.agg #[.int .i64 (a : Int), .int .i64 (b : Int), .int .i64 s, .int .i64 (30 + 4 * a : Int), .int .i64 (30 + 4 * a + 6 * b : Int), .int .i64 ((16 + (30 + 4 * a + 6 * b) + 7) / 8 * 8 : Int), .int .i64 (a + 1 : Int)]) ∧ Below w.heap.size w w' := by
  have HK := hidp (check_yes hr)
  have hn := (rightB_iff a b s).1 hr
  have a1 : a ≤ 16 := by omega
  have b1 : b ≤ 1024 := by omega
  obtain ⟨y, hy⟩ : ∃ y : Int, ((16 + (30 + 4 * (a : Int) + 6 * (b : Int)) + 7) / 8 * 8 : Int) = y := ⟨_, rfl⟩
  have HY := hidp hy
  rw [hy]
  have hd := (Held.new w 23 #[.int .i64 a, .int .i64 b, .int .i64 s]).alloc (.cells #[.int .i64 0, .int .i64 0, .int .i64 0, .int .i64 0, .int .i64 0, .int .i64 0, .int .i64 0] 117)
  have hl := Held.new2 w (.cells #[.int .i64 a, .int .i64 b, .int .i64 s] 23) 117 #[.int .i64 0, .int .i64 0, .int .i64 0, .int .i64 0, .int .i64 0, .int .i64 0, .int .i64 0]
  clear hr hn hy
  go_enter Try.func99, Try.ntmps99
  go_wp2_with fail
  refine (cfCheck_c a b s _).mono ?_
  rintro e w1 ⟨rfl, hb1⟩
  rw [HK.out]
  have hz := hb1.size
  have hd1 := hd.keep hb1
  have hl1 := hl.keep hb1
  obtain ⟨x0, x1, x2⟩ := hd1.three
  obtain ⟨z0, z1, z2, z3, z4, z5, z6⟩ := hl1.seven
  obtain ⟨f0, f1, f2, f3, f4, f5, f6⟩ := hl1.thawed7
  have hlt := hl1.lt
  clear hd hl
  go_wp2_with fail
  refine (plLineI_c _ y (by omega) (by omega) HY.out _).mono ?_
  rintro e w2 ⟨rfl, rfl⟩
  go_wp2
  have hfin := (((((((hl1.put 0 (.int .i64 (a : Int))).put 1 (.int .i64 (b : Int))).put 2 (.int .i64 s)).put 3 (.int .i64 (30 + 4 * a : Int))).put 4 (.int .i64 (30 + 4 * a + 6 * b : Int))).put 5 (.int .i64 y)).put 6 (.int .i64 (a + 1 : Int))).alloc
    (.cells #[.int .i64 (a : Int), .int .i64 (b : Int), .int .i64 s, .int .i64 (30 + 4 * a : Int), .int .i64 (30 + 4 * a + 6 * b : Int), .int .i64 y, .int .i64 (a + 1 : Int)] 117)
  obtain ⟨r0, r1, r2, r3, r4, r5, r6⟩ := hfin.seven
  refine bodyPost_ret (v := .agg #[.int .i64 (a : Int), .int .i64 (b : Int), .int .i64 s, .int .i64 (30 + 4 * a : Int), .int .i64 (30 + 4 * a + 6 * b : Int), .int .i64 y, .int .i64 (a + 1 : Int)]) (by simp [results, Try.results99, go_sem, r0, r1, r2, r3, r4, r5, r6]) rfl ⟨rfl, ?_⟩
  exact Bnew (Bput (Bput (Bput (Bput (Bput (Bput (Bput (Bgo (Bnew (Bnew (B0 _) _) _) hb1) (Nat.le_succ _) _) (Nat.le_succ _) _) (Nat.le_succ _) _) (Nat.le_succ _) _) (Nat.le_succ _) _) (Nat.le_succ _) _) (Nat.le_succ _) _) _

theorem plLayout_c (t p s T P S A C M K : Int) (h : Laid7 t p s T P S A C M K) (w : World) :
    Calls Try.prog 99 #[.agg #[.int .i64 t, .int .i64 p, .int .i64 s]] w fun z w' => z = .returned (.agg #[.int .i64 T, .int .i64 P, .int .i64 S, .int .i64 A, .int .i64 C, .int .i64 M, .int .i64 K]) ∧ Below w.heap.size w w' := by
  obtain ⟨rfl, rfl, rfl, rfl, rfl, rfl, rfl⟩ := h
  cases hr : rightB t p s
  · obtain ⟨e1, e2, e3, e4, e5, e6, e7⟩ := lay_no hr
    rw [e1, e2, e3, e4, e5, e6, e7]
    exact plLayout_no t p s hr w
  · obtain ⟨e1, e2, e3, e4, e5, e6, e7⟩ := lay_yes hr
    rw [e1, e2, e3, e4, e5, e6, e7]
    have hn := (rightB_iff t p s).1 hr
    obtain ⟨a, rfl⟩ : ∃ a : Nat, t = a := ⟨t.toNat, by omega⟩
    obtain ⟨b, rfl⟩ : ∃ b : Nat, p = b := ⟨p.toNat, by omega⟩
    exact plLayout_yes a b s hr w
theorem lay_is (t p s : Int) : ∃ T P S A C M K : Int, Laid7 t p s T P S A C M K ∧ (0 ≤ T ∧ T ≤ 16) ∧ (0 ≤ P ∧ P ≤ 1024) ∧ (0 ≤ A ∧ A ≤ 94) ∧ (0 ≤ C ∧ C ≤ 6238) ∧ (0 ≤ M ∧ M ≤ 6256) ∧ (0 ≤ K ∧ K ≤ 17) ∧ M % 8 = 0 :=
  ⟨_, _, _, _, _, _, _, ⟨rfl, rfl, rfl, rfl, rfl, rfl, rfl⟩, lay_bounds t p s⟩

theorem plBin_c (k : Int) (w : World) :
    Calls Try.prog 32 #[.int .i64 k] w fun z w' => z = .returned (.int .i64 (nthI 2 11 1 k)) ∧ w = w' := by
  go_enter Try.func32, Try.ntmps32
  go_wp2_with fail
  refine (plNth_c 2 11 1 k (by omega) (by omega) (by omega) (by omega) (by omega) (by omega) _).mono ?_
  rintro e w1 ⟨rfl, rfl⟩
  go_wp2
  go_ret
  exact ⟨by first | rfl | trivial, by first | rfl | trivial⟩

theorem plPage_c (t p s q b : Int) (w : World) :
    Calls Try.prog 74 #[.agg #[.int .i64 t, .int .i64 p, .int .i64 s], .int .i64 q, .int .i64 b] w fun z w' => z = .returned (.int .i64 (pageI t p s q b)) ∧ Below w.heap.size w w' := by
  obtain ⟨T, P, S, A, C, M, K, HL, ⟨t0, t1⟩, ⟨p0, p1⟩, ⟨a0, a1⟩, ⟨c0, c1⟩, ⟨m0, m1⟩, ⟨k0, k1⟩, -⟩ := lay_is t p s
  have HR := hidp (show pageI t p s q b = nthI (nthI A P 6 q) 6 1 b by unfold pageI; rw [HL.hA, HL.hP])
  have hB := nth_bounds (f := A) (n := P) (e := 6) (i := q) (B := 6256) (by omega) (by omega) (by omega) (by omega)
  obtain ⟨y, hy⟩ : ∃ y, nthI A P 6 q = y := ⟨_, rfl⟩
  rw [hy] at hB HR
  have HY := hidp hy
  clear hy
  have hfd : ∀ w : World, (Instr.field 117 (.agg #[.int .i64 T, .int .i64 P, .int .i64 S, .int .i64 A, .int .i64 C, .int .i64 M, .int .i64 K]) 0).run Try.prog w = .ok (.agg #[.int .i64 T, .int .i64 P, .int .i64 S]) w := fun _ => by kernel_rfl
  have hfd2 : ∀ w : World, (Instr.field 23 (.agg #[.int .i64 T, .int .i64 P, .int .i64 S]) 0).run Try.prog w = .ok (.int .i64 T) w := fun _ => by kernel_rfl
  go_enter Try.func74, Try.ntmps74
  go_wp2_with fail
  refine (plLayout_c t p s T P S A C M K HL _).mono ?_
  rintro e w1 ⟨rfl, hb1⟩
  go_wp2_with fail
  refine (plNth_c A P 6 q (by omega) (by omega) (by omega) (by omega) (by omega) (by omega) _).mono ?_
  rintro e w2 ⟨rfl, rfl⟩
  rw [HY.out]
  go_wp2_with fail
  refine (plNth_c y 6 1 b (by omega) (by omega) (by omega) (by omega) (by omega) (by omega) _).mono ?_
  rintro e w3 ⟨rfl, rfl⟩
  go_wp2
  go_ret
  refine ⟨by rw [HR.out]; rfl, ?_⟩
  repeat (first | exact B0 _ | (with_reducible refine Bgo ?_ (by assumption)) | (with_reducible refine Bdrew ?_) | (with_reducible refine Bdraw ?_ _) | (with_reducible refine Bnew ?_ _) | (with_reducible refine Bput ?_ (by first | (simp; done) | (simp; omega)) _))

theorem plInfo_c (t p s q : Int) (w : World) :
    Calls Try.prog 38 #[.agg #[.int .i64 t, .int .i64 p, .int .i64 s], .int .i64 q] w fun z w' => z = .returned (.int .i64 (pageI t p s q 0)) ∧ Below w.heap.size w w' := by
  go_enter Try.func38, Try.ntmps38
  go_wp2_with fail
  refine (plPage_c t p s q 0 _).mono ?_
  rintro e w1 ⟨rfl, hb1⟩
  go_wp2
  go_ret
  exact ⟨by first | rfl | trivial, Bgo (Bnew (B0 _) _) hb1⟩

theorem plFoot_c (t p s q : Int) (w : World) :
    Calls Try.prog 39 #[.agg #[.int .i64 t, .int .i64 p, .int .i64 s], .int .i64 q] w fun z w' => z = .returned (.int .i64 (pageI t p s q 1)) ∧ Below w.heap.size w w' := by
  go_enter Try.func39, Try.ntmps39
  go_wp2_with fail
  refine (plPage_c t p s q 1 _).mono ?_
  rintro e w1 ⟨rfl, hb1⟩
  go_wp2
  go_ret
  exact ⟨by first | rfl | trivial, Bgo (Bnew (B0 _) _) hb1⟩

theorem plNext_c (t p s q : Int) (w : World) :
    Calls Try.prog 55 #[.agg #[.int .i64 t, .int .i64 p, .int .i64 s], .int .i64 q] w fun z w' => z = .returned (.int .i64 (pageI t p s q 2)) ∧ Below w.heap.size w w' := by
  go_enter Try.func55, Try.ntmps55
  go_wp2_with fail
  refine (plPage_c t p s q 2 _).mono ?_
  rintro e w1 ⟨rfl, hb1⟩
  go_wp2
  go_ret
  exact ⟨by first | rfl | trivial, Bgo (Bnew (B0 _) _) hb1⟩

theorem plPrev_c (t p s q : Int) (w : World) :
    Calls Try.prog 96 #[.agg #[.int .i64 t, .int .i64 p, .int .i64 s], .int .i64 q] w fun z w' => z = .returned (.int .i64 (pageI t p s q 3)) ∧ Below w.heap.size w w' := by
  go_enter Try.func96, Try.ntmps96
  go_wp2_with fail
  refine (plPage_c t p s q 3 _).mono ?_
  rintro e w1 ⟨rfl, hb1⟩
  go_wp2
  go_ret
  exact ⟨by first | rfl | trivial, Bgo (Bnew (B0 _) _) hb1⟩

theorem makerI_bounds (t p s m b : Int) : -1 ≤ makerI t p s m b ∧ makerI t p s m b ≤ 8416 := by
  have h := lay_bounds t p s
  have h1 := nth_bounds (f := lM t p s) (n := lK t p s) (e := 120) (i := m) (B := 6256) (by omega) (by omega) (by omega) (by omega)
  have h2 := nth_bounds (f := nthI (lM t p s) (lK t p s) 120 m) (n := 120) (e := 1) (i := b) (B := 8296) (by omega) (by omega) (by omega) (by omega)
  unfold makerI
  omega
end Go.Proofs.Ytpndfhdedmdoeaa
