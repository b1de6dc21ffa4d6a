/-
  What span's release, and Release, do. Written by span/gen_rel.py.
-/
import Derived.Test.YtjjfcaliippgpaaGreatDoorU09
namespace Go.Proofs.YtjjfcaliippgpaaGreatDoor
open Go.ChangeShapes Go.WideShapes Go.ChangeAt Go.RowKit Go.Maps
set_option linter.unusedVariables false
set_option linter.unusedSimpArgs false
set_option maxRecDepth 100000
section
section
variable {base b n : Nat} {wh all : Bool} {K : Nat -> Option Nat} {st : Vst} {w w0 : World} {A G : Nat -> Prop} {t q s : Int}

theorem dropV_few (p : Int) (st : Vst) : 0 <= dropV n K t q s p st /\ dropV n K t q s p st <= 1024 := by
 unfold dropV
 split
 ·obtain ⟨⟨kk, l, c, ok⟩, hI⟩ : ∃ x, infoOf n K t q s p st = x := ⟨_, rfl⟩
  rw [hI]
  by_cases h : kk = 1
  ·rw [if_pos h]
   unfold infoOf at hI
   rw [h] at hI
   exact infoG_len hI
  ·rw [if_neg h]; omega
 ·omega
end
end
end Go.Proofs.YtjjfcaliippgpaaGreatDoor
