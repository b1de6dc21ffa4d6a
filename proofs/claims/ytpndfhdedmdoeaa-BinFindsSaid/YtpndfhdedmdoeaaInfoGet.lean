/-
  Contracts of info.Get, nacreref09.Get: which info a value is.
-/
import Derived.Test.YtpndfhdedmdoeaaInfoPut
namespace Go.Proofs.Ytpndfhdedmdoeaa
open Go.ChangeShapes Go.WideShapes Go.ChangeAt Go.RowKit
set_option linter.unusedVariables false
set_option linter.unusedSimpArgs false

theorem inGet1_c (x a k : Nat) (v : Nat) (g : Nat) (w : World) (hx : x < 2 ^ 32) (hk : 1 ≤ k) (ha : a + k ≤ 64) (hv : x / 2 ^ a % 2 ^ k = v) (hc : Held w g 101 #[.int .u64 (x : Int)]) :
    Calls Try.prog 94 #[.int .i64 (a : Int), .int .i64 (k : Int), .pointer (some ⟨g, 0, none⟩)] w fun e w' => e = .returned (.int .i64 (v : Int)) ∧ ∃ n, w' = w.drewN n := by
  have c0 : w.cell? ⟨g, 0, none⟩ = some (.int .u64 (x : Int)) := hc.cell 0
  have hb : v < 4294967296 := by
    have h1 : x / 2 ^ a % 2 ^ k ≤ x / 2 ^ a := Nat.mod_le _ _
    have h2 : x / 2 ^ a ≤ x := Nat.div_le_self _ _
    omega
  have HG : Hid (getI x a k = v) := by
    refine hidp ?_
    unfold getI HM.getN
    rw [if_pos (fieldB_yes (by omega) (by omega) (by omega))]
    simpa using hv
  clear hv
  go_enter Try.func94, Try.ntmps94
  go_wp2_with fail
  refine (Get_c x a k (by omega) (by omega) (by omega) (by omega) (by omega) _).mono ?_
  rintro e w1 ⟨rfl, n1, rfl⟩
  rw [HG.out]
  go_wp2
  go_ret
  exact ⟨rfl, n1, rfl⟩

theorem inGet_yes (v k l c : Nat) (hv : v < 2 ^ 32) (h1 : v % 16 = k) (h2 : v / 16 % 4096 = l) (h3 : v / 65536 % 16 = c) (hr : infoB k l c = true) (hw : infoV k l c = v) (w : World) :
    Calls Try.prog 60 #[.int .u32 (v : Int)] w fun e w' => e = .returned (.tuple #[.agg #[.int .i64 (k : Int), .int .i64 (l : Int), .int .i64 (c : Int)], .bool true]) ∧ Below w.heap.size w w' := by
  have HR := hidp hr
  have HW := hidp hw; clear hw
  have H1 := hidp (show v / 2 ^ 0 % 2 ^ 4 = k by omega)
  have H2 := hidp (show v / 2 ^ 4 % 2 ^ 12 = l by omega)
  have H3 := hidp (show v / 2 ^ 16 % 2 ^ 4 = c by omega)
  clear hr h1 h2 h3
  go_enter Try.func60, Try.ntmps60
  go_wp2_with fail
  refine (Join_c 0 v (by omega) hv _).mono ?_
  rintro e w1 ⟨rfl, rfl⟩
  rw [show 0 * 4294967296 + v = v from by omega]
  have hc := Held.new2 w (.cells #[.int .i64 0, .int .i64 0, .int .i64 0] 55) 101 #[.int .u64 (v : Int)]
  have hr0 := (Held.new w 55 #[.int .i64 0, .int .i64 0, .int .i64 0]).alloc (.cells #[.int .u64 (v : Int)] 101)
  go_wp2_with fail
  refine (inGet1_c v 0 4 k _ _ hv (by omega) (by omega) H1.out hc).mono ?_
  rintro e w1 ⟨rfl, n1, rfl⟩
  go_wp2_with fail
  refine (inGet1_c v 4 12 l _ _ hv (by omega) (by omega) H2.out (hc.drewN n1)).mono ?_
  rintro e w1 ⟨rfl, n2, rfl⟩
  go_wp2_with fail
  refine (inGet1_c v 16 4 c _ _ hv (by omega) (by omega) H3.out (hc.drewN (n1 + n2))).mono ?_
  rintro e w1 ⟨rfl, n3, rfl⟩
  go_wp2_with fail
  refine (inPut_c k l c _).mono ?_
  rintro e w6 ⟨rfl, hb⟩
  rw [HR.out, HW.out]
  obtain ⟨hcl, hfr⟩ := bcell hb
  have hz := hb.size
  simp only [World.size_alloc, World.heap_drewN] at hz
  have z := ((hr0.drewN (n1 + n2 + n3)).alloc (.cells #[.int .i64 (k : Int), .int .i64 (l : Int), .int .i64 (c : Int)] 55)).keep hb
  obtain ⟨q0, q1, q2⟩ := (((z.put 0 (.int .i64 (k : Int))).put 1 (.int .i64 (l : Int))).put 2 (.int .i64 (c : Int))).three
  go_wp2
  refine bodyPost_ret (v := .tuple #[.agg #[.int .i64 (k : Int), .int .i64 (l : Int), .int .i64 (c : Int)], .bool true]) (by simp [results, Try.results60, go_sem, hcl, q0, q1, q2]) rfl ⟨rfl, ?_⟩
  (repeat (first | exact B0 _ | (with_reducible refine Below.setCell ?_ (by first | (simp; done) | (simp; omega)) _) | (with_reducible refine Bgo ?_ hb) | (with_reducible refine below_draws ?_ _) | (with_reducible refine Below.alloc ?_ (by first | (simp; done) | (simp; omega)) _)))

theorem inGet_no1 (v k l c m : Nat) (hv : v < 2 ^ 32) (h1 : v % 16 = k) (h2 : v / 16 % 4096 = l) (h3 : v / 65536 % 16 = c) (hr : infoB k l c = false) (hw : infoV k l c = m) (w : World) :
    Calls Try.prog 60 #[.int .u32 (v : Int)] w fun e w' => e = .returned (.tuple #[.agg #[.int .i64 0, .int .i64 0, .int .i64 0], .bool false]) ∧ Below w.heap.size w w' := by
  have HR := hidp hr
  have HW := hidp hw; clear hw
  have H1 := hidp (show v / 2 ^ 0 % 2 ^ 4 = k by omega)
  have H2 := hidp (show v / 2 ^ 4 % 2 ^ 12 = l by omega)
  have H3 := hidp (show v / 2 ^ 16 % 2 ^ 4 = c by omega)
  clear hr h1 h2 h3
  go_enter Try.func60, Try.ntmps60
  go_wp2_with fail
  refine (Join_c 0 v (by omega) hv _).mono ?_
  rintro e w1 ⟨rfl, rfl⟩
  rw [show 0 * 4294967296 + v = v from by omega]
  have hc := Held.new2 w (.cells #[.int .i64 0, .int .i64 0, .int .i64 0] 55) 101 #[.int .u64 (v : Int)]
  have hr0 := (Held.new w 55 #[.int .i64 0, .int .i64 0, .int .i64 0]).alloc (.cells #[.int .u64 (v : Int)] 101)
  go_wp2_with fail
  refine (inGet1_c v 0 4 k _ _ hv (by omega) (by omega) H1.out hc).mono ?_
  rintro e w1 ⟨rfl, n1, rfl⟩
  go_wp2_with fail
  refine (inGet1_c v 4 12 l _ _ hv (by omega) (by omega) H2.out (hc.drewN n1)).mono ?_
  rintro e w1 ⟨rfl, n2, rfl⟩
  go_wp2_with fail
  refine (inGet1_c v 16 4 c _ _ hv (by omega) (by omega) H3.out (hc.drewN (n1 + n2))).mono ?_
  rintro e w1 ⟨rfl, n3, rfl⟩
  go_wp2_with fail
  refine (inPut_c k l c _).mono ?_
  rintro e w6 ⟨rfl, hb⟩
  rw [HR.out, HW.out]
  obtain ⟨hcl, hfr⟩ := bcell hb
  have hz := hb.size
  simp only [World.size_alloc, World.heap_drewN] at hz
  have z := ((hr0.drewN (n1 + n2 + n3)).alloc (.cells #[.int .i64 (k : Int), .int .i64 (l : Int), .int .i64 (c : Int)] 55)).keep hb
  obtain ⟨q0, q1, q2⟩ := (((z.put 0 (.int .i64 0)).put 1 (.int .i64 0)).put 2 (.int .i64 0)).three
  go_wp2
  refine bodyPost_ret (v := .tuple #[.agg #[.int .i64 0, .int .i64 0, .int .i64 0], .bool false]) (by simp [results, Try.results60, go_sem, hcl, q0, q1, q2]) rfl ⟨rfl, ?_⟩
  (repeat (first | exact B0 _ | (with_reducible refine Below.setCell ?_ (by first | (simp; done) | (simp; omega)) _) | (with_reducible refine Bgo ?_ hb) | (with_reducible refine below_draws ?_ _) | (with_reducible refine Below.alloc ?_ (by first | (simp; done) | (simp; omega)) _)))

theorem inGet_no2 (v k l c m : Nat) (hv : v < 2 ^ 32) (h1 : v % 16 = k) (h2 : v / 16 % 4096 = l) (h3 : v / 65536 % 16 = c) (hr : infoB k l c = true) (hw : infoV k l c = m) (hn : m ≠ v) (w : World) :
    Calls Try.prog 60 #[.int .u32 (v : Int)] w fun e w' => e = .returned (.tuple #[.agg #[.int .i64 0, .int .i64 0, .int .i64 0], .bool false]) ∧ Below w.heap.size w w' := by
  have HR := hidp hr
  have HW := hidp hw; clear hw
  have H1 := hidp (show v / 2 ^ 0 % 2 ^ 4 = k by omega)
  have H2 := hidp (show v / 2 ^ 4 % 2 ^ 12 = l by omega)
  have H3 := hidp (show v / 2 ^ 16 % 2 ^ 4 = c by omega)
  clear hr h1 h2 h3
  go_enter Try.func60, Try.ntmps60
  go_wp2_with fail
  refine (Join_c 0 v (by omega) hv _).mono ?_
  rintro e w1 ⟨rfl, rfl⟩
  rw [show 0 * 4294967296 + v = v from by omega]
  have hc := Held.new2 w (.cells #[.int .i64 0, .int .i64 0, .int .i64 0] 55) 101 #[.int .u64 (v : Int)]
  have hr0 := (Held.new w 55 #[.int .i64 0, .int .i64 0, .int .i64 0]).alloc (.cells #[.int .u64 (v : Int)] 101)
  go_wp2_with fail
  refine (inGet1_c v 0 4 k _ _ hv (by omega) (by omega) H1.out hc).mono ?_
  rintro e w1 ⟨rfl, n1, rfl⟩
  go_wp2_with fail
  refine (inGet1_c v 4 12 l _ _ hv (by omega) (by omega) H2.out (hc.drewN n1)).mono ?_
  rintro e w1 ⟨rfl, n2, rfl⟩
  go_wp2_with fail
  refine (inGet1_c v 16 4 c _ _ hv (by omega) (by omega) H3.out (hc.drewN (n1 + n2))).mono ?_
  rintro e w1 ⟨rfl, n3, rfl⟩
  go_wp2_with fail
  refine (inPut_c k l c _).mono ?_
  rintro e w6 ⟨rfl, hb⟩
  rw [HR.out, HW.out]
  obtain ⟨hcl, hfr⟩ := bcell hb
  have hz := hb.size
  simp only [World.size_alloc, World.heap_drewN] at hz
  have z := ((hr0.drewN (n1 + n2 + n3)).alloc (.cells #[.int .i64 (k : Int), .int .i64 (l : Int), .int .i64 (c : Int)] 55)).keep hb
  obtain ⟨q0, q1, q2⟩ := (((z.put 0 (.int .i64 0)).put 1 (.int .i64 0)).put 2 (.int .i64 0)).three
  have t0 : ((m : Int) != v) = true := by simp; omega
  have t1 : ((m : Int) == v) = false := by simp; omega
  have t2 : (m == v) = false := by simp; omega
  clear hn
  go_wp2
  refine bodyPost_ret (v := .tuple #[.agg #[.int .i64 0, .int .i64 0, .int .i64 0], .bool false]) (by simp [results, Try.results60, go_sem, hcl, q0, q1, q2]) rfl ⟨rfl, ?_⟩
  (repeat (first | exact B0 _ | (with_reducible refine Below.setCell ?_ (by first | (simp; done) | (simp; omega)) _) | (with_reducible refine Bgo ?_ hb) | (with_reducible refine below_draws ?_ _) | (with_reducible refine Below.alloc ?_ (by first | (simp; done) | (simp; omega)) _)))


/-- which info a value is; zeros and false where it is none -/
def infoG (v : Nat) : Int × Int × Int × Bool :=
  if infoB (v % 16 : Nat) (v / 16 % 4096 : Nat) (v / 65536 : Nat) then ((v % 16 : Nat), (v / 16 % 4096 : Nat), (v / 65536 : Nat), true) else (0, 0, 0, false)
theorem infoG_yes {v : Nat} (h : infoB (v % 16 : Nat) (v / 16 % 4096 : Nat) (v / 65536 : Nat) = true) : infoG v = (((v % 16 : Nat) : Int), ((v / 16 % 4096 : Nat) : Int), ((v / 65536 : Nat) : Int), true) := by unfold infoG; rw [if_pos h]
theorem infoG_no {v : Nat} (h : infoB (v % 16 : Nat) (v / 16 % 4096 : Nat) (v / 65536 : Nat) = false) : infoG v = (0, 0, 0, false) := by unfold infoG; rw [h]; rfl
theorem infoG_split (v : Nat) : (infoB (v % 16 : Nat) (v / 16 % 4096 : Nat) (v / 65536 % 16 : Nat) = true ∧ infoV (v % 16 : Nat) (v / 16 % 4096 : Nat) (v / 65536 % 16 : Nat) = v) ↔ infoB (v % 16 : Nat) (v / 16 % 4096 : Nat) (v / 65536 : Nat) = true := by
  constructor
  · rintro ⟨h1, h2⟩
    rw [infoV_yes h1] at h2
    simp only [Int.toNat_natCast] at h2
    have e : v / 65536 % 16 = v / 65536 := by omega
    rw [e] at h1
    exact h1
  · intro h
    have h' := infoB_iff h
    unfold infoP at h'
    have e : v / 65536 % 16 = v / 65536 := by omega
    rw [e]
    refine ⟨h, ?_⟩
    rw [infoV_yes h]
    simp only [Int.toNat_natCast]
    omega
/-- what is got is put, and the other way round -/
theorem infoG_back {v : Nat} {k l c : Int} (h : infoG v = (k, l, c, true)) : infoB k l c = true ∧ infoV k l c = v := by
  cases hr : infoB (v % 16 : Nat) (v / 16 % 4096 : Nat) (v / 65536 : Nat)
  · rw [infoG_no hr] at h; simp at h
  · rw [infoG_yes hr] at h
    simp only [Prod.mk.injEq, and_true] at h
    obtain ⟨rfl, rfl, rfl⟩ := h
    have h2 := (infoG_split v).2 hr
    have h3 := infoB_iff hr
    unfold infoP at h3
    have e : v / 65536 % 16 = v / 65536 := by omega
    rw [e] at h2
    exact h2
theorem infoG_none {v : Nat} {k l c : Int} (h : infoG v = (k, l, c, false)) : k = 0 ∧ l = 0 ∧ c = 0 := by
  cases hr : infoB (v % 16 : Nat) (v / 16 % 4096 : Nat) (v / 65536 : Nat)
  · rw [infoG_no hr] at h
    simp only [Prod.mk.injEq, and_true] at h
    omega
  · rw [infoG_yes hr] at h; simp at h
theorem infoG_put {k l c : Int} (h : infoB k l c = true) : infoG (infoV k l c) = (k, l, c, true) := by
  have hi := infoB_iff h
  unfold infoP at hi
  rw [infoV_yes h]
  have e1 : (k.toNat + 16 * l.toNat + 65536 * c.toNat) % 16 = k.toNat := by omega
  have e2 : (k.toNat + 16 * l.toNat + 65536 * c.toNat) / 16 % 4096 = l.toNat := by omega
  have e3 : (k.toNat + 16 * l.toNat + 65536 * c.toNat) / 65536 = c.toNat := by omega
  unfold infoG
  rw [e1, e2, e3, show ((k.toNat : Nat) : Int) = k by omega, show ((l.toNat : Nat) : Int) = l by omega, show ((c.toNat : Nat) : Int) = c by omega, if_pos h]
theorem infoV_lt (k l c : Int) : infoV k l c < 2 ^ 32 := by
  cases hr : infoB k l c
  · rw [infoV_no hr]; omega
  · have hi := infoB_iff hr
    unfold infoP at hi
    rw [infoV_yes hr]
    omega
theorem inGet_c (v : Nat) (k l c : Int) (b : Bool) (hv : v < 2 ^ 32) (h : infoG v = (k, l, c, b)) (w : World) :
    Calls Try.prog 60 #[.int .u32 (v : Int)] w fun e w' => e = .returned (.tuple #[.agg #[.int .i64 k, .int .i64 l, .int .i64 c], .bool b]) ∧ Below w.heap.size w w' := by
  have hs := infoG_split v
  cases hr : infoB (v % 16 : Nat) (v / 16 % 4096 : Nat) (v / 65536 : Nat)
  · rw [infoG_no hr] at h
    simp only [Prod.mk.injEq] at h
    obtain ⟨rfl, rfl, rfl, rfl⟩ := h
    rw [hr] at hs
    cases h5 : infoB (v % 16 : Nat) (v / 16 % 4096 : Nat) (v / 65536 % 16 : Nat)
    · exact inGet_no1 v _ _ _ _ hv rfl rfl rfl h5 rfl w
    · refine inGet_no2 v _ _ _ _ hv rfl rfl rfl h5 rfl (fun h6 => ?_) w
      have := hs.1 ⟨h5, h6⟩
      cases this
  · rw [infoG_yes hr] at h
    simp only [Prod.mk.injEq] at h
    obtain ⟨rfl, rfl, rfl, rfl⟩ := h
    obtain ⟨h5, h6⟩ := hs.2 hr
    have hi := infoB_iff hr
    unfold infoP at hi
    have e : v / 65536 % 16 = v / 65536 := by omega
    have := inGet_yes v _ _ _ hv rfl rfl rfl h5 h6 w
    rw [e] at this
    exact this

theorem r9Get_yes (v k l c : Nat) (hv : v < 2 ^ 32) (h1 : v % 16 = k) (h2 : v / 16 % 4096 = l) (h3 : v / 65536 = c) (hr : infoB k l c = true) (w : World) :
    Calls Try.prog 59 #[.int .u32 (v : Int)] w fun e w' => e = .returned (.tuple #[.agg #[.int .i64 (k : Int), .int .i64 (l : Int), .int .i64 (c : Int)], .bool true]) ∧ Below w.heap.size w w' := by
  have HR := hidp hr
  clear hr
  have e1 : ((v : Int).tmod 16) = (k : Int) := by rw [Int.tmod_eq_emod_of_nonneg (by omega)]; omega
  have e2 : (((v : Int) / 16).tmod 4096) = (l : Int) := by rw [Int.tmod_eq_emod_of_nonneg (by omega)]; omega
  have e3 : ((v : Int) / 65536) = (c : Int) := by omega
  go_enter Try.func59, Try.ntmps59
  go_wp2_with fail
  refine (r9Right_c k l c _).mono ?_
  rintro e w6 ⟨rfl, hb⟩
  rw [HR.out]
  obtain ⟨hcl, hfr⟩ := bcell hb
  have hz := hb.size
  simp only [World.size_alloc, World.heap_drewN] at hz
  have z := ((Held.new w 55 #[.int .i64 0, .int .i64 0, .int .i64 0]).alloc (.cells #[.int .i64 (k : Int), .int .i64 (l : Int), .int .i64 (c : Int)] 55)).keep hb
  obtain ⟨q0, q1, q2⟩ := (((z.put 0 (.int .i64 (k : Int))).put 1 (.int .i64 (l : Int))).put 2 (.int .i64 (c : Int))).three
  go_wp2
  refine bodyPost_ret (v := .tuple #[.agg #[.int .i64 (k : Int), .int .i64 (l : Int), .int .i64 (c : Int)], .bool true]) (by simp [results, Try.results59, go_sem, hcl, q0, q1, q2]) rfl ⟨rfl, ?_⟩
  (repeat (first | exact B0 _ | (with_reducible refine Below.setCell ?_ (by first | (simp; done) | (simp; omega)) _) | (with_reducible refine Bgo ?_ hb) | (with_reducible refine below_draws ?_ _) | (with_reducible refine Below.alloc ?_ (by first | (simp; done) | (simp; omega)) _)))

theorem r9Get_no (v k l c : Nat) (hv : v < 2 ^ 32) (h1 : v % 16 = k) (h2 : v / 16 % 4096 = l) (h3 : v / 65536 = c) (hr : infoB k l c = false) (w : World) :
    Calls Try.prog 59 #[.int .u32 (v : Int)] w fun e w' => e = .returned (.tuple #[.agg #[.int .i64 0, .int .i64 0, .int .i64 0], .bool false]) ∧ Below w.heap.size w w' := by
  have HR := hidp hr
  clear hr
  have e1 : ((v : Int).tmod 16) = (k : Int) := by rw [Int.tmod_eq_emod_of_nonneg (by omega)]; omega
  have e2 : (((v : Int) / 16).tmod 4096) = (l : Int) := by rw [Int.tmod_eq_emod_of_nonneg (by omega)]; omega
  have e3 : ((v : Int) / 65536) = (c : Int) := by omega
  go_enter Try.func59, Try.ntmps59
  go_wp2_with fail
  refine (r9Right_c k l c _).mono ?_
  rintro e w6 ⟨rfl, hb⟩
  rw [HR.out]
  obtain ⟨hcl, hfr⟩ := bcell hb
  have hz := hb.size
  simp only [World.size_alloc, World.heap_drewN] at hz
  have z := ((Held.new w 55 #[.int .i64 0, .int .i64 0, .int .i64 0]).alloc (.cells #[.int .i64 (k : Int), .int .i64 (l : Int), .int .i64 (c : Int)] 55)).keep hb
  obtain ⟨q0, q1, q2⟩ := (((z.put 0 (.int .i64 0)).put 1 (.int .i64 0)).put 2 (.int .i64 0)).three
  go_wp2
  refine bodyPost_ret (v := .tuple #[.agg #[.int .i64 0, .int .i64 0, .int .i64 0], .bool false]) (by simp [results, Try.results59, go_sem, hcl, q0, q1, q2]) rfl ⟨rfl, ?_⟩
  (repeat (first | exact B0 _ | (with_reducible refine Below.setCell ?_ (by first | (simp; done) | (simp; omega)) _) | (with_reducible refine Bgo ?_ hb) | (with_reducible refine below_draws ?_ _) | (with_reducible refine Below.alloc ?_ (by first | (simp; done) | (simp; omega)) _)))

theorem r9Get_c (v : Nat) (k l c : Int) (b : Bool) (hv : v < 2 ^ 32) (h : infoG v = (k, l, c, b)) (w : World) :
    Calls Try.prog 59 #[.int .u32 (v : Int)] w fun e w' => e = .returned (.tuple #[.agg #[.int .i64 k, .int .i64 l, .int .i64 c], .bool b]) ∧ Below w.heap.size w w' := by
  cases hr : infoB (v % 16 : Nat) (v / 16 % 4096 : Nat) (v / 65536 : Nat)
  · rw [infoG_no hr] at h
    simp only [Prod.mk.injEq] at h
    obtain ⟨rfl, rfl, rfl, rfl⟩ := h
    exact r9Get_no v _ _ _ hv rfl rfl rfl hr w
  · rw [infoG_yes hr] at h
    simp only [Prod.mk.injEq] at h
    obtain ⟨rfl, rfl, rfl, rfl⟩ := h
    exact r9Get_yes v _ _ _ hv rfl rfl rfl hr w
end Go.Proofs.Ytpndfhdedmdoeaa
