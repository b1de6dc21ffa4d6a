/-
  The contract of the document's answer to which configuration a word is.
-/
import Derived.Test.YtdhpjlbcldcfjaaConfOf
namespace Go.Proofs.Ytdhpjlbcldcfjaa
open Go.ChangeShapes Go.WideShapes Go.ChangeAt Go.RowKit
set_option linter.unusedVariables false
set_option linter.unusedSimpArgs false

theorem r4Of_no1 (x t p s : Nat) (hx : x < 2 ^ 64) (h1 : x % 65536 = t) (h2 : x / 65536 % 65536 = p) (h3 : x / 4294967296 = s) (hs : 20 < s) (w : World) :
    Calls Try.prog 22 #[.int .u64 (x : Int)] w fun e w' => e = .returned (.tuple #[.agg #[.int .i64 0, .int .i64 0, .int .i64 0], .bool false]) ∧ Below w.heap.size w w' := by
  skip
  have q1 : (x : Int) % 65536 = t := by omega
  have q2 : (x : Int) / 65536 % 65536 = p := by omega
  have q3 : (x : Int) / 4294967296 = s := by omega
  clear h1 h2 h3 
  go_enter Try.func22, Try.ntmps22
  go_wp2
  refine bodyPost_ret (v := .tuple #[.agg #[.int .i64 0, .int .i64 0, .int .i64 0], .bool false]) (by simp [results, Try.results22, go_sem]) rfl ⟨rfl, ?_⟩
  (repeat (first | exact B0 _ | (with_reducible refine Below.setCell ?_ (by first | (simp; done) | (simp; omega)) _) | (with_reducible refine Bgo ?_ hb) | (with_reducible refine below_draws ?_ _) | (with_reducible refine Below.alloc ?_ (by first | (simp; done) | (simp; omega)) _)))

theorem r4Of_no2 (x t p s : Nat) (hx : x < 2 ^ 64) (h1 : x % 65536 = t) (h2 : x / 65536 % 65536 = p) (h3 : x / 4294967296 = s) (hs : s ≤ 20) (hr : rightB t p s = false) (w : World) :
    Calls Try.prog 22 #[.int .u64 (x : Int)] w fun e w' => e = .returned (.tuple #[.agg #[.int .i64 0, .int .i64 0, .int .i64 0], .bool false]) ∧ Below w.heap.size w w' := by
  have HR := hidp hr
  have q1 : (x : Int) % 65536 = t := by omega
  have q2 : (x : Int) / 65536 % 65536 = p := by omega
  have q3 : (x : Int) / 4294967296 = s := by omega
  clear h1 h2 h3 hr
  go_enter Try.func22, Try.ntmps22
  go_wp2_with fail
  refine (r4Right_c t p s _).mono ?_
  rintro e w6 ⟨rfl, hb⟩
  rw [HR.out]
  obtain ⟨hcl, hfr⟩ := bcell hb
  have hz := hb.size
  simp only [World.size_alloc, World.heap_drewN] at hz
  have hh := ((Held.new w 23 #[.int .i64 0, .int .i64 0, .int .i64 0]).alloc (.cells #[.int .i64 (t : Int), .int .i64 (p : Int), .int .i64 (s : Int)] 23)).keep hb
  obtain ⟨k0, k1, k2⟩ := hh.three
  have hlt := hh.lt
  go_wp2
  refine bodyPost_ret (v := .tuple #[.agg #[.int .i64 0, .int .i64 0, .int .i64 0], .bool false]) (by simp [results, Try.results22, go_sem, hcl, k0, k1, k2]) rfl ⟨rfl, ?_⟩
  (repeat (first | exact B0 _ | (with_reducible refine Below.setCell ?_ (by first | (simp; done) | (simp; omega)) _) | (with_reducible refine Bgo ?_ hb) | (with_reducible refine below_draws ?_ _) | (with_reducible refine Below.alloc ?_ (by first | (simp; done) | (simp; omega)) _)))

theorem r4Of_yes (x t p s : Nat) (hx : x < 2 ^ 64) (h1 : x % 65536 = t) (h2 : x / 65536 % 65536 = p) (h3 : x / 4294967296 = s) (hs : s ≤ 20) (hr : rightB t p s = true) (w : World) :
    Calls Try.prog 22 #[.int .u64 (x : Int)] w fun e w' => e = .returned (.tuple #[.agg #[.int .i64 (t : Int), .int .i64 (p : Int), .int .i64 (s : Int)], .bool true]) ∧ Below w.heap.size w w' := by
  have HR := hidp hr
  have q1 : (x : Int) % 65536 = t := by omega
  have q2 : (x : Int) / 65536 % 65536 = p := by omega
  have q3 : (x : Int) / 4294967296 = s := by omega
  clear h1 h2 h3 hr
  go_enter Try.func22, Try.ntmps22
  go_wp2_with fail
  refine (r4Right_c t p s _).mono ?_
  rintro e w6 ⟨rfl, hb⟩
  rw [HR.out]
  obtain ⟨hcl, hfr⟩ := bcell hb
  have hz := hb.size
  simp only [World.size_alloc, World.heap_drewN] at hz
  have hh := ((Held.new w 23 #[.int .i64 0, .int .i64 0, .int .i64 0]).alloc (.cells #[.int .i64 (t : Int), .int .i64 (p : Int), .int .i64 (s : Int)] 23)).keep hb
  obtain ⟨k0, k1, k2⟩ := hh.three
  have hlt := hh.lt
  go_wp2
  refine bodyPost_ret (v := .tuple #[.agg #[.int .i64 (t : Int), .int .i64 (p : Int), .int .i64 (s : Int)], .bool true]) (by simp [results, Try.results22, go_sem, hcl, k0, k1, k2]) rfl ⟨rfl, ?_⟩
  (repeat (first | exact B0 _ | (with_reducible refine Below.setCell ?_ (by first | (simp; done) | (simp; omega)) _) | (with_reducible refine Bgo ?_ hb) | (with_reducible refine below_draws ?_ _) | (with_reducible refine Below.alloc ?_ (by first | (simp; done) | (simp; omega)) _)))

theorem r4Of_c (x : Nat) (t p s : Int) (b : Bool) (hx : x < 2 ^ 64) (h : confOf x = (t, p, s, b)) (w : World) :
    Calls Try.prog 22 #[.int .u64 (x : Int)] w fun e w' => e = .returned (.tuple #[.agg #[.int .i64 t, .int .i64 p, .int .i64 s], .bool b]) ∧ Below w.heap.size w w' := by
  cases hr : rightB (x % 65536 : Nat) (x / 65536 % 65536 : Nat) (x / 4294967296 : Nat)
  · rw [confOf_no hr] at h
    simp only [Prod.mk.injEq] at h
    obtain ⟨rfl, rfl, rfl, rfl⟩ := h
    by_cases hs : 20 < x / 4294967296
    · exact r4Of_no1 x _ _ _ hx rfl rfl rfl hs w
    · exact r4Of_no2 x _ _ _ hx rfl rfl rfl (by omega) hr w
  · rw [confOf_yes hr] at h
    simp only [Prod.mk.injEq] at h
    obtain ⟨rfl, rfl, rfl, rfl⟩ := h
    have h' := (rightB_iff _ _ _).1 hr
    exact r4Of_yes x _ _ _ hx rfl rfl rfl (by omega) hr w

end Go.Proofs.Ytdhpjlbcldcfjaa
