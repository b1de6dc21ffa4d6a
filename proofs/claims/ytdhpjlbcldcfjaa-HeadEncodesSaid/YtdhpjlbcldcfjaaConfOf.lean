/-
  Contracts of conf.Of and of the document's answer to it: which configuration a word is.
-/
import Derived.Test.YtdhpjlbcldcfjaaConfWord
namespace Go.Proofs.Ytdhpjlbcldcfjaa
open Go.ChangeShapes Go.WideShapes Go.ChangeAt Go.RowKit
set_option linter.unusedVariables false

theorem confGet (x a : Nat) (ha : a ≤ 48) : getI x a 16 = x / 2 ^ a % 65536 := by
  unfold getI HM.getN
  rw [if_pos (fieldB_yes (by omega) (by omega) (by omega))]
  simp
theorem cfOf1_c (x a : Nat) (v : Nat) (g : Nat) (w : World) (hx : x < 2 ^ 64) (ha : a ≤ 48) (hv : x / 2 ^ a % 65536 = v) (hc : Held w g 39 #[.int .u64 (x : Int)]) :
    Calls Try.prog 34 #[.int .i64 (a : Int), .pointer (some ⟨g, 0, none⟩)] w fun e w' => e = .returned (.int .i64 (v : Int)) ∧ ∃ n, w' = w.drewN n := by
  have c0 : w.cell? ⟨g, 0, none⟩ = some (.int .u64 (x : Int)) := hc.cell 0
  have hb : v < 65536 := by omega
  have HG := hidp ((confGet x a ha).trans hv)
  clear hv
  go_enter Try.func34, Try.ntmps34
  go_wp2_with fail
  refine (Get_c x a 16 hx (by omega) (by omega) (by omega) (by omega) _).mono ?_
  rintro e w1 ⟨rfl, n1, rfl⟩
  rw [HG.out]
  go_wp2
  go_ret
  exact ⟨rfl, n1, rfl⟩

/-- which configuration a word is; zeros and false where it is none -/
def confOf (x : Nat) : Int × Int × Int × Bool :=
  if rightB (x % 65536 : Nat) (x / 65536 % 65536 : Nat) (x / 4294967296 : Nat) then ((x % 65536 : Nat), (x / 65536 % 65536 : Nat), (x / 4294967296 : Nat), true) else (0, 0, 0, false)
theorem confOf_yes {x : Nat} (h : rightB (x % 65536 : Nat) (x / 65536 % 65536 : Nat) (x / 4294967296 : Nat) = true) : confOf x = (((x % 65536 : Nat) : Int), ((x / 65536 % 65536 : Nat) : Int), ((x / 4294967296 : Nat) : Int), true) := by unfold confOf; rw [if_pos h]
theorem confOf_no {x : Nat} (h : rightB (x % 65536 : Nat) (x / 65536 % 65536 : Nat) (x / 4294967296 : Nat) = false) : confOf x = (0, 0, 0, false) := by unfold confOf; rw [h]; rfl


theorem cfOf_yes (x t p s : Nat) (hx : x < 2 ^ 64) (h1 : x % 65536 = t) (h2 : x / 65536 % 65536 = p) (h3 : x / 4294967296 % 65536 = s) (hr : rightB t p s = true) (hw : wordN t p s = x) (w : World) :
    Calls Try.prog 20 #[.int .u64 (x : Int)] w fun e w' => e = .returned (.tuple #[.agg #[.int .i64 (t : Int), .int .i64 (p : Int), .int .i64 (s : Int)], .bool true]) ∧ Below w.heap.size w w' := by
  have HR := hidp hr
  have HW := hidp hw
  have H1 := hidp (show x / 2 ^ 0 % 65536 = t by omega)
  have H2 := hidp (show x / 2 ^ 16 % 65536 = p by omega)
  have H3 := hidp (show x / 2 ^ 32 % 65536 = s by omega)
  clear hr hw h1 h2 h3
  have hc := (Held.new w 39 #[.int .u64 (x : Int)]).alloc (.cells #[.int .i64 0, .int .i64 0, .int .i64 0] 23)
  go_enter Try.func20, Try.ntmps20
  go_wp2_with fail
  refine (cfOf1_c x 0 t _ _ hx (by omega) H1.out hc).mono ?_
  rintro e w1 ⟨rfl, n1, rfl⟩
  go_wp2_with fail
  refine (cfOf1_c x 16 p _ _ hx (by omega) H2.out (hc.drewN n1)).mono ?_
  rintro e w1 ⟨rfl, n2, rfl⟩
  go_wp2_with fail
  refine (cfOf1_c x 32 s _ _ hx (by omega) H3.out (hc.drewN (n1 + n2))).mono ?_
  rintro e w1 ⟨rfl, n3, rfl⟩
  go_wp2_with fail
  refine (cfWord_c t p s _).mono ?_
  rintro e w6 ⟨rfl, hb⟩
  rw [HR.out, HW.out]
  obtain ⟨hcl, hfr⟩ := bcell hb
  have hz := hb.size
  simp only [World.size_alloc, World.heap_drewN] at hz
  go_wp2
  refine bodyPost_ret (v := .tuple #[.agg #[.int .i64 (t : Int), .int .i64 (p : Int), .int .i64 (s : Int)], .bool true]) (by simp [results, Try.results20, go_sem, hcl]) rfl ⟨rfl, ?_⟩
  (repeat (first | exact B0 _ | (with_reducible refine Below.setCell ?_ (by first | (simp; done) | (simp; omega)) _) | (with_reducible refine Bgo ?_ hb) | (with_reducible refine below_draws ?_ _) | (with_reducible refine Below.alloc ?_ (by first | (simp; done) | (simp; omega)) _)))

theorem cfOf_no1 (x t p s : Nat) (hx : x < 2 ^ 64) (h1 : x % 65536 = t) (h2 : x / 65536 % 65536 = p) (h3 : x / 4294967296 % 65536 = s) (hr : rightB t p s = false) (w : World) :
    Calls Try.prog 20 #[.int .u64 (x : Int)] w fun e w' => e = .returned (.tuple #[.agg #[.int .i64 0, .int .i64 0, .int .i64 0], .bool false]) ∧ Below w.heap.size w w' := by
  have HR := hidp hr
  obtain ⟨m, hm⟩ : ∃ m, wordN t p s = m := ⟨_, rfl⟩
  have HW := hidp hm
  have H1 := hidp (show x / 2 ^ 0 % 65536 = t by omega)
  have H2 := hidp (show x / 2 ^ 16 % 65536 = p by omega)
  have H3 := hidp (show x / 2 ^ 32 % 65536 = s by omega)
  clear hr hm h1 h2 h3
  have hc := (Held.new w 39 #[.int .u64 (x : Int)]).alloc (.cells #[.int .i64 0, .int .i64 0, .int .i64 0] 23)
  go_enter Try.func20, Try.ntmps20
  go_wp2_with fail
  refine (cfOf1_c x 0 t _ _ hx (by omega) H1.out hc).mono ?_
  rintro e w1 ⟨rfl, n1, rfl⟩
  go_wp2_with fail
  refine (cfOf1_c x 16 p _ _ hx (by omega) H2.out (hc.drewN n1)).mono ?_
  rintro e w1 ⟨rfl, n2, rfl⟩
  go_wp2_with fail
  refine (cfOf1_c x 32 s _ _ hx (by omega) H3.out (hc.drewN (n1 + n2))).mono ?_
  rintro e w1 ⟨rfl, n3, rfl⟩
  go_wp2_with fail
  refine (cfWord_c t p s _).mono ?_
  rintro e w6 ⟨rfl, hb⟩
  rw [HR.out, HW.out]
  obtain ⟨hcl, hfr⟩ := bcell hb
  have hz := hb.size
  simp only [World.size_alloc, World.heap_drewN] at hz
  go_wp2
  refine bodyPost_ret (v := .tuple #[.agg #[.int .i64 0, .int .i64 0, .int .i64 0], .bool false]) (by simp [results, Try.results20, go_sem, hcl]) rfl ⟨rfl, ?_⟩
  (repeat (first | exact B0 _ | (with_reducible refine Below.setCell ?_ (by first | (simp; done) | (simp; omega)) _) | (with_reducible refine Bgo ?_ hb) | (with_reducible refine below_draws ?_ _) | (with_reducible refine Below.alloc ?_ (by first | (simp; done) | (simp; omega)) _)))

theorem cfOf_no2 (x t p s : Nat) (hx : x < 2 ^ 64) (h1 : x % 65536 = t) (h2 : x / 65536 % 65536 = p) (h3 : x / 4294967296 % 65536 = s) (hr : rightB t p s = true) (hw : wordN t p s ≠ x) (w : World) :
    Calls Try.prog 20 #[.int .u64 (x : Int)] w fun e w' => e = .returned (.tuple #[.agg #[.int .i64 0, .int .i64 0, .int .i64 0], .bool false]) ∧ Below w.heap.size w w' := by
  have HR := hidp hr
  obtain ⟨m, hm⟩ : ∃ m, wordN t p s = m := ⟨_, rfl⟩
  have HW := hidp hm
  have t0 : ((m : Int) != x) = true := by simp; omega
  have t1 : ((m : Int) == x) = false := by simp; omega
  have t2 : (m == x) = false := by simp; omega
  have H1 := hidp (show x / 2 ^ 0 % 65536 = t by omega)
  have H2 := hidp (show x / 2 ^ 16 % 65536 = p by omega)
  have H3 := hidp (show x / 2 ^ 32 % 65536 = s by omega)
  clear hr hw hm h1 h2 h3
  have hc := (Held.new w 39 #[.int .u64 (x : Int)]).alloc (.cells #[.int .i64 0, .int .i64 0, .int .i64 0] 23)
  go_enter Try.func20, Try.ntmps20
  go_wp2_with fail
  refine (cfOf1_c x 0 t _ _ hx (by omega) H1.out hc).mono ?_
  rintro e w1 ⟨rfl, n1, rfl⟩
  go_wp2_with fail
  refine (cfOf1_c x 16 p _ _ hx (by omega) H2.out (hc.drewN n1)).mono ?_
  rintro e w1 ⟨rfl, n2, rfl⟩
  go_wp2_with fail
  refine (cfOf1_c x 32 s _ _ hx (by omega) H3.out (hc.drewN (n1 + n2))).mono ?_
  rintro e w1 ⟨rfl, n3, rfl⟩
  go_wp2_with fail
  refine (cfWord_c t p s _).mono ?_
  rintro e w6 ⟨rfl, hb⟩
  rw [HR.out, HW.out]
  obtain ⟨hcl, hfr⟩ := bcell hb
  have hz := hb.size
  simp only [World.size_alloc, World.heap_drewN] at hz
  go_wp2
  refine bodyPost_ret (v := .tuple #[.agg #[.int .i64 0, .int .i64 0, .int .i64 0], .bool false]) (by simp [results, Try.results20, go_sem, hcl]) rfl ⟨rfl, ?_⟩
  (repeat (first | exact B0 _ | (with_reducible refine Below.setCell ?_ (by first | (simp; done) | (simp; omega)) _) | (with_reducible refine Bgo ?_ hb) | (with_reducible refine below_draws ?_ _) | (with_reducible refine Below.alloc ?_ (by first | (simp; done) | (simp; omega)) _)))


theorem confOf_split {x : Nat} (hx : x < 2 ^ 64) :
    (rightB (x % 65536 : Nat) (x / 65536 % 65536 : Nat) (x / 4294967296 % 65536 : Nat) = true ∧ wordN (x % 65536 : Nat) (x / 65536 % 65536 : Nat) (x / 4294967296 % 65536 : Nat) = x) ↔
      rightB (x % 65536 : Nat) (x / 65536 % 65536 : Nat) (x / 4294967296 : Nat) = true := by
  constructor
  · rintro ⟨h1, h2⟩
    rw [word_yes h1] at h2
    simp only [Int.toNat_natCast] at h2
    rw [rightB_iff] at h1 ⊢
    omega
  · intro h
    have h' := (rightB_iff _ _ _).1 h
    have e : x / 4294967296 % 65536 = x / 4294967296 := by omega
    rw [e]
    refine ⟨h, ?_⟩
    rw [word_yes h]
    simp only [Int.toNat_natCast]
    omega
theorem cfOf_c (x : Nat) (t p s : Int) (b : Bool) (hx : x < 2 ^ 64) (h : confOf x = (t, p, s, b)) (w : World) :
    Calls Try.prog 20 #[.int .u64 (x : Int)] w fun e w' => e = .returned (.tuple #[.agg #[.int .i64 t, .int .i64 p, .int .i64 s], .bool b]) ∧ Below w.heap.size w w' := by
  have hs := confOf_split hx
  cases hr : rightB (x % 65536 : Nat) (x / 65536 % 65536 : Nat) (x / 4294967296 : Nat)
  · rw [confOf_no hr] at h
    simp only [Prod.mk.injEq] at h
    obtain ⟨rfl, rfl, rfl, rfl⟩ := h
    cases h2 : rightB (x % 65536 : Nat) (x / 65536 % 65536 : Nat) (x / 4294967296 % 65536 : Nat)
    · exact cfOf_no1 x _ _ _ hx rfl rfl rfl h2 w
    · refine cfOf_no2 x _ _ _ hx rfl rfl rfl h2 (fun hw => ?_) w
      rw [hs.1 ⟨h2, hw⟩] at hr
      cases hr
  · rw [confOf_yes hr] at h
    simp only [Prod.mk.injEq] at h
    obtain ⟨rfl, rfl, rfl, rfl⟩ := h
    obtain ⟨h2, h3⟩ := hs.2 hr
    have h' := (rightB_iff _ _ _).1 hr
    have e : x / 4294967296 % 65536 = x / 4294967296 := by omega
    rw [e] at h2 h3
    exact cfOf_yes x _ _ _ hx rfl rfl e h2 h3 w

end Go.Proofs.Ytdhpjlbcldcfjaa
