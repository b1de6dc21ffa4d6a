/-
  What the bytes of pages are. Written by audit/gen_parts.py.
-/
import Derived.Test.YthiobfghanlelaaYMore
import Derived.Test.YthiobfghanlelaaYRow
import Derived.Deep.AppendLies
namespace Go.Proofs.Ythiobfghanlelaa
open Go.ChangeShapes Go.WideShapes Go.ChangeAt Go.RowKit Go.Shelf
set_option linter.unusedVariables false
set_option linter.unusedSimpArgs false

/-- parts (kind, address, size), as their cells -/
def ptVs (l : List (Int × Int × Int)) : List Value := l.flatMap fun x => [.int .i64 x.1, .int .i64 x.2.1, .int .i64 x.2.2]
theorem ptVs_len (l : List (Int × Int × Int)) : (ptVs l).length = l.length * 3 := by unfold ptVs; induction l with
  | nil => rfl
  | cons x l ih => rw [List.flatMap_cons, List.length_append, ih]; simp; omega
theorem ptVs_app (l m : List (Int × Int × Int)) : ptVs (l ++ m) = ptVs l ++ ptVs m := by unfold ptVs; rw [List.flatMap_append]
theorem ptVs_one (x : Int × Int × Int) : ptVs [x] = [.int .i64 x.1, .int .i64 x.2.1, .int .i64 x.2.2] := by simp [ptVs]
theorem partInfo : (Try.prog.info? 115).map (fun i => (i.zero, i.size, i.bytes)) = some (some (.agg #[.int .i64 0, .int .i64 0, .int .i64 0]), 3, 24) := by kernel_rfl

namespace AuH
variable (H : AuH)
/-- the first byte of a page; the bytes of a page; the bytes of a slot -/
def pg : Nat := 2 ^ H.s
def first (q : Nat) : Int := ((q : Int) + 1) * (H.pg : Int)
def zs (q : Nat) : Nat := sizeN (H.s : Int) (H.Cl q)
def sl (q : Nat) : Nat := slotI (H.Cl q)
def slotPart (q i : Nat) : Int × Int × Int := ((slotKd (H.cel q 5) (H.cel q 4) i : Nat), H.first q + (i : Int) * (H.zs q : Int), (H.zs q : Int))
def slotsTo (q k : Nat) : List (Int × Int × Int) := (List.range k).map (H.slotPart q)
def slack (q : Nat) : List (Int × Int × Int) := if H.sl q * H.zs q < H.pg then [(5, H.first q + ((H.sl q * H.zs q : Nat) : Int), (H.pg : Int) - ((H.sl q * H.zs q : Nat) : Int))] else []
def partsAt (q : Nat) : List (Int × Int × Int) :=
  if H.K q = 1 then [(1, H.first q, (H.ln q : Int) * (H.pg : Int))] else if H.K q = 2 then [(2, H.first q, (H.ln q : Int) * (H.pg : Int))]
  else if H.K q = 3 then H.slotsTo q (H.sl q) ++ H.slack q else []
def parts : List (Int × Int × Int) := catTo H.partsAt H.p
variable {H}
theorem slotsTo_succ (q k : Nat) : H.slotsTo q (k + 1) = H.slotsTo q k ++ [H.slotPart q k] := by unfold slotsTo; rw [List.range_succ, List.map_append]; rfl
theorem slotsTo_len (q k : Nat) : (H.slotsTo q k).length = k := by unfold slotsTo; simp
theorem partsAt_no {q : Nat} (h : H.K q = 0) : H.partsAt q = [] := by unfold partsAt; rw [if_neg (by omega), if_neg (by omega), if_neg (by omega)]
theorem partsAt_len (q : Nat) : (H.partsAt q).length ≤ 33 := by
  unfold partsAt
  split
  · simp
  · split
    · simp
    · split
      · rw [List.length_append, slotsTo_len]
        have := slotI_le (H.Cl q)
        unfold slack sl
        split <;> simp <;> omega
      · simp
theorem parts_len : ∀ x, (catTo H.partsAt x).length ≤ x * 33
  | 0 => by simp [catTo]
  | x + 1 => by
    have h1 := parts_len x
    have h2 := partsAt_len (H := H) x
    show (catTo H.partsAt x ++ H.partsAt x).length ≤ _
    rw [List.length_append]
    omega
end AuH
theorem pg_le {H : AuH} {n c : Nat} (HV : HeapV H n c) : 1024 ≤ H.pg ∧ H.pg ≤ 1048576 ∧ H.pg = pageS H.s ∧ pageN H.t H.p H.s = H.pg := by
  obtain ⟨g, q, h1, h2, h3, h4, h5, h6, h7, h8, h9, h10, h11⟩ := right_nums HV.right
  have e : H.pg = g := by unfold AuH.pg; rw [h8, Int.toNat_natCast]
  rw [e]
  exact ⟨h6, h7, by rw [pageS_yes ⟨h9, h10⟩]; exact h8, h1⟩
theorem first_eq {H : AuH} {n c : Nat} (HV : HeapV H n c) {q : Nat} (hq : q < H.p) : addrI H.t H.p H.s q 0 = H.first q ∧ addrB H.t H.p H.s q 0 = true ∧ 1024 ≤ H.first q ∧ H.first q ≤ 1075838976 := by
  have hg := pg_le HV
  have hB : addrB H.t H.p H.s q 0 = true := by unfold addrB; rw [HV.right, hg.2.2.2, Bool.true_and, decide_eq_true_iff]; omega
  have hA : addrI H.t H.p H.s q 0 = ((q : Int) + 1) * (H.pg : Int) + 0 := by unfold addrI; rw [if_pos hB, hg.2.2.2]
  have hY := addr_yes hB
  rw [hA, Int.add_zero] at hY
  exact ⟨by rw [hA, Int.add_zero]; rfl, hB, hY.2.2.2.2.1, hY.2.2.2.2.2⟩


theorem held_grown {w w' : World} {row : Option Nat} {g : Nat} {t : TypeId} {cs : Array Value} (h : Held w g t cs) (hg : w.grownBy w' row) (hr : row ≠ some g) : Held w' g t cs := (hg.block g h.lt (fun e => hr e.symm)).trans h
theorem turns_grown {F : Nat → Prop} {W w w' : World} {row : Option Nat} (h : Turns F W w) (hg : w.grownBy w' row) (hr : ∀ i, row = some i → F i ∨ W.heap.size ≤ i) : Turns F W w' :=
  Turns.more_new (F := fun i => row = some i) ⟨hg.os, hg.tape, hg.output, hg.size, fun i hi hf => hg.block i hi (fun e => hf e.symm)⟩ h.size h hr
end Go.Proofs.Ythiobfghanlelaa

/-
  The parts of a heap. Written by audit/gen_parts2.py.
-/
namespace Go.Proofs.Ythiobfghanlelaa
open Go.ChangeShapes Go.WideShapes Go.ChangeAt Go.RowKit Go.Shelf
set_option linter.unusedVariables false
set_option linter.unusedSimpArgs false

theorem own_down {w : World} {base base' : Nat} {e : TypeId} {size : Nat} {v : Value} {n : Nat} {xs : List Value} (h : w.ownsRow base e size v n xs) (hb : base' ≤ base) : w.ownsRow base' e size v n xs :=
  ⟨h.1, h.2.imp id fun ⟨g, cap, cur, h1, h2, h3⟩ => ⟨g, cap, cur, h1, Nat.le_trans hb h2, h3⟩⟩
theorem own_cells {w : World} {base : Nat} {e : TypeId} {size n : Nat} {v : Value} {xs : List Value} (h : w.ownsRow base e size v n xs) {g : Nat} (hg : v.ownBlock = some g) : ∃ o, w.heap[g]? = some o ∧ o.isCells = true := by
  rcases h.2 with ⟨rfl, _⟩ | ⟨g', cap, cur, rfl, hbg, hg', hr⟩
  · simp [Value.ownBlock] at hg
  · have : g' = g := by simpa [Value.ownBlock] using hg
    subst this
    exact ⟨_, hg', rfl⟩
section
attribute [local go_sem] Oper.semAt_some

end
end Go.Proofs.Ythiobfghanlelaa
