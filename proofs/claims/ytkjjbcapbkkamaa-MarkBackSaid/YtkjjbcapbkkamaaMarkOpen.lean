/-
  Contracts of the functions of package mark and of the document's answers to it.
-/
import Derived.Test.YtkjjbcapbkkamaaMarkNote
namespace Go.Proofs.Ytkjjbcapbkkamaa
open Go.ChangeShapes Go.WideShapes Go.ChangeAt Go.RowKit
set_option linter.unusedVariables false


theorem open_of {x s c t : Nat} {o b : Bool} (h : noteOf x = (s, o, c, b)) : openB x t = (b && o && s == t) ∧ openN x t = if (b && o && s == t) = true then c else 0 := by
  have e : openB x t = (b && o && s == t) := by unfold openB; rw [h]
  exact ⟨e, by unfold openN; rw [e, h]⟩


theorem mkOpen_c (x t : Nat) (hx : x < 2 ^ 64) (ht : t < 2 ^ 32) (w : World) :
    Calls Try.prog 25 #[.int .u64 (x : Int), .int .u32 (t : Int)] w fun e w' => e = .returned (.tuple #[.int .i64 ((openN x t : Nat) : Int), .bool (openB x t)]) ∧ Below w.heap.size w w' := by
  obtain ⟨s, o, c, b, hn⟩ : ∃ s o c b, noteOf x = (s, o, c, b) := ⟨_, _, _, _, rfl⟩
  have HO := hidp (open_of (t := t) hn)
  have HN := hidp hn
  clear hn
  cases b
  · go_enter Try.func25, Try.ntmps25
    go_wp2_with (go_at_call 23; refine (mkOfNote_c x s c o false hx HN.out _).mono ?_; rintro e w' ⟨rfl, hb⟩)
    go_ret2
    exact ⟨by rw [HO.out.1, HO.out.2]; rfl, hb.trans ((Below.refl _ _).alloc hb.size _)⟩
  · cases o
    · go_enter Try.func25, Try.ntmps25
      go_wp2_with (go_at_call 23; refine (mkOfNote_c x s c false true hx HN.out _).mono ?_; rintro e w' ⟨rfl, hb⟩)
      go_ret2
      exact ⟨by rw [HO.out.1, HO.out.2]; rfl, hb.trans ((Below.refl _ _).alloc hb.size _)⟩
    · by_cases hst : s = t
      · subst hst
        have t2 : (s == s) = true := by simp
        rw [t2] at HO
        clear t2
        go_enter Try.func25, Try.ntmps25
        go_wp2_with (go_at_call 23; refine (mkOfNote_c x s c true true hx HN.out _).mono ?_; rintro e w' ⟨rfl, hb⟩)
        go_ret2
        exact ⟨by rw [HO.out.1, HO.out.2]; rfl, hb.trans ((Below.refl _ _).alloc hb.size _)⟩
      · have t0 : ((s : Int) != t) = true := by simp; omega
        have t1 : ((s : Int) == t) = false := by simp; omega
        have t2 : (s == t) = false := by simp; omega
        rw [t2] at HO
        clear hst
        go_enter Try.func25, Try.ntmps25
        go_wp2_with (go_at_call 23; refine (mkOfNote_c x s c true true hx HN.out _).mono ?_; rintro e w' ⟨rfl, hb⟩)
        go_ret2
        exact ⟨by rw [HO.out.1, HO.out.2]; rfl, hb.trans ((Below.refl _ _).alloc hb.size _)⟩



theorem r3Open_c (x t : Nat) (hx : x < 2 ^ 64) (ht : t < 2 ^ 32) (w : World) :
    Calls Try.prog 26 #[.int .u64 (x : Int), .int .u32 (t : Int)] w fun e w' => e = .returned (.tuple #[.int .i64 ((openN x t : Nat) : Int), .bool (openB x t)]) ∧ Below w.heap.size w w' := by
  obtain ⟨s, o, c, b, hn⟩ : ∃ s o c b, noteOf x = (s, o, c, b) := ⟨_, _, _, _, rfl⟩
  have HO := hidp (open_of (t := t) hn)
  have HN := hidp hn
  clear hn
  cases b
  · go_enter Try.func26, Try.ntmps26
    go_wp2_with (go_at_call 24; refine (r3OfNote_c x s c o false hx HN.out _).mono ?_; rintro e w' ⟨rfl, hb⟩)
    go_ret2
    exact ⟨by rw [HO.out.1, HO.out.2]; rfl, hb.trans ((Below.refl _ _).alloc hb.size _)⟩
  · cases o
    · go_enter Try.func26, Try.ntmps26
      go_wp2_with (go_at_call 24; refine (r3OfNote_c x s c false true hx HN.out _).mono ?_; rintro e w' ⟨rfl, hb⟩)
      go_ret2
      exact ⟨by rw [HO.out.1, HO.out.2]; rfl, hb.trans ((Below.refl _ _).alloc hb.size _)⟩
    · by_cases hst : s = t
      · subst hst
        have t2 : (s == s) = true := by simp
        rw [t2] at HO
        clear t2
        go_enter Try.func26, Try.ntmps26
        go_wp2_with (go_at_call 24; refine (r3OfNote_c x s c true true hx HN.out _).mono ?_; rintro e w' ⟨rfl, hb⟩)
        go_ret2
        exact ⟨by rw [HO.out.1, HO.out.2]; rfl, hb.trans ((Below.refl _ _).alloc hb.size _)⟩
      · have t0 : ((s : Int) != t) = true := by simp; omega
        have t1 : ((s : Int) == t) = false := by simp; omega
        have t2 : (s == t) = false := by simp; omega
        rw [t2] at HO
        clear hst
        go_enter Try.func26, Try.ntmps26
        go_wp2_with (go_at_call 24; refine (r3OfNote_c x s c true true hx HN.out _).mono ?_; rintro e w' ⟨rfl, hb⟩)
        go_ret2
        exact ⟨by rw [HO.out.1, HO.out.2]; rfl, hb.trans ((Below.refl _ _).alloc hb.size _)⟩


end Go.Proofs.Ytkjjbcapbkkamaa
