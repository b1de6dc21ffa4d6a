/-
  NARROWER THAN 'FOR EVERY INPUT', by the rows' own cells (each row's printed sentence says how): SlabPicks: laid · SlabGives: laid · SlabKeeps: laid · SlabBack: laid.
  DERIVED. THE GIVEN ROWS OF THIS SEAT. 4 by the template 'for every input the law returns true; each argument reads behind the call as it read before'; 0 by the template 'total and deterministic' (their statements: YtioolaaphbddbaaGreatDoorTotals.lean).
  GIVEN WITH THE SEED: the statements are not yours to turn. If you find one false, say at which input.
  Laid BY PROGRAM, IN A SANDBOX (cutbox-rows.mjs): the forced cells as the released guide's own fill.sh prints them over the translation c2c3d4229a10348e… (all of the seat's roots in one cut). By AI agents, Wed Nov 11 2026. No macro, syntax, notation, axiom, sorry.
-/
import Derived.Test.YtioolaaphbddbaaGreatDoorChecked
import GoSem.Claim
import GoSem.ClaimJoined
import GoSem.ClaimMapViews
import Derived.JoinedTies
import Derived.KernelRfl
namespace Go.Proofs.YtioolaaphbddbaaGreatDoor
/- THE CELL 'sum', in the pinned program and in every row, IS THE sha256 OF THE DUMP (.gsa) THAT YtioolaaphbddbaaGreatDoorProg.lean LOADS. Nothing in Lean hashes anything: it is a label: what it is worth is what the hold of that sum in a sandbox is worth. -/
noncomputable def Tryz.pinned : Pinned := { name := "ytioolaaphbddbaagreatdoor", sum := "c2c3d4229a10348ecc4f0112efb80b32a11d0afb9c0fe171981da64f4eb73f16", checked := Tryz.checked }
namespace Rows
def none {H : Type} : Left H := { results := [], args := [] }

/- WHAT THE LISTED PACKAGE-LEVEL VARIABLES READ AS WHEN THE CALL BEGINS. Each datum BY PROGRAM (the guide's laid-datum.mjs) off the statement by which the dump's own 'gosem.cut.vars' lays the variable. In a bare row this is a premise. The card (YtioolaaphbddbaaGreatDoorCards.lean) ties it to the program's text. -/
def laid_nacre_class_slots {H : Type} : DataW H := .agg [.lit (.int .i64 32), .lit (.int .i64 21), .lit (.int .i64 16), .lit (.int .i64 10), .lit (.int .i64 8), .lit (.int .i64 5), .lit (.int .i64 4), .lit (.int .i64 3), .lit (.int .i64 2)]

/-- 'nacrelaw16.SlabPicks': WHATEVER THE INPUT: true; the input reads as it did. -/
def slabPicksSpec : ChangeSpec := { name := "slabPicks", fn := fun _ => fun
  | [d1, d2, d3] => { results := [.lit (.bool true)], args := [d1, d2, d3] }
  | _ => none }
def slabPicksRow : OpenClaim := { program := "ytioolaaphbddbaagreatdoor", sum := "c2c3d4229a10348ecc4f0112efb80b32a11d0afb9c0fe171981da64f4eb73f16", func := "nacre/nacrelaw16.SlabPicks", spec := "slabPicks", unfollowed := true, recurses := true, named := ["nacre/class.slots"], apart := false, laid := [("nacre/class.slots", laid_nacre_class_slots)] }
def SlabPicksSaid : Prop := slabPicksRow.holds Tryz.pinned (OpenSpec.ofChange slabPicksSpec)

/-- ITS FALSE NEIGHBOUR: 'it returns false'. Refute it at one input. -/
def slabPicksWrong : ChangeSpec := { name := "slabPicks", fn := fun _ => fun
  | [d1, d2, d3] => { results := [.lit (.bool false)], args := [d1, d2, d3] }
  | _ => none }
def SlabPicksWrongFalsely : Prop := slabPicksRow.holds Tryz.pinned (OpenSpec.ofChange slabPicksWrong)

/-- 'nacrelaw16.SlabGives': WHATEVER THE INPUT: true; the input reads as it did. -/
def slabGivesSpec : ChangeSpec := { name := "slabGives", fn := fun _ => fun
  | [d1, d2, d3] => { results := [.lit (.bool true)], args := [d1, d2, d3] }
  | _ => none }
def slabGivesRow : OpenClaim := { program := "ytioolaaphbddbaagreatdoor", sum := "c2c3d4229a10348ecc4f0112efb80b32a11d0afb9c0fe171981da64f4eb73f16", func := "nacre/nacrelaw16.SlabGives", spec := "slabGives", unfollowed := true, recurses := true, named := ["nacre/class.slots"], apart := false, laid := [("nacre/class.slots", laid_nacre_class_slots)] }
def SlabGivesSaid : Prop := slabGivesRow.holds Tryz.pinned (OpenSpec.ofChange slabGivesSpec)

/-- ITS FALSE NEIGHBOUR: 'it returns false'. Refute it at one input. -/
def slabGivesWrong : ChangeSpec := { name := "slabGives", fn := fun _ => fun
  | [d1, d2, d3] => { results := [.lit (.bool false)], args := [d1, d2, d3] }
  | _ => none }
def SlabGivesWrongFalsely : Prop := slabGivesRow.holds Tryz.pinned (OpenSpec.ofChange slabGivesWrong)

/-- 'nacrelaw16.SlabKeeps': WHATEVER THE INPUT: true; the input reads as it did. -/
def slabKeepsSpec : ChangeSpec := { name := "slabKeeps", fn := fun _ => fun
  | [d1, d2, d3] => { results := [.lit (.bool true)], args := [d1, d2, d3] }
  | _ => none }
def slabKeepsRow : OpenClaim := { program := "ytioolaaphbddbaagreatdoor", sum := "c2c3d4229a10348ecc4f0112efb80b32a11d0afb9c0fe171981da64f4eb73f16", func := "nacre/nacrelaw16.SlabKeeps", spec := "slabKeeps", unfollowed := true, recurses := true, named := ["nacre/class.slots"], apart := false, laid := [("nacre/class.slots", laid_nacre_class_slots)] }
def SlabKeepsSaid : Prop := slabKeepsRow.holds Tryz.pinned (OpenSpec.ofChange slabKeepsSpec)

/-- ITS FALSE NEIGHBOUR: 'it returns false'. Refute it at one input. -/
def slabKeepsWrong : ChangeSpec := { name := "slabKeeps", fn := fun _ => fun
  | [d1, d2, d3] => { results := [.lit (.bool false)], args := [d1, d2, d3] }
  | _ => none }
def SlabKeepsWrongFalsely : Prop := slabKeepsRow.holds Tryz.pinned (OpenSpec.ofChange slabKeepsWrong)

/-- 'nacrelaw16.SlabBack': WHATEVER THE INPUT: true; the input reads as it did. -/
def slabBackSpec : ChangeSpec := { name := "slabBack", fn := fun _ => fun
  | [d1, d2, d3] => { results := [.lit (.bool true)], args := [d1, d2, d3] }
  | _ => none }
def slabBackRow : OpenClaim := { program := "ytioolaaphbddbaagreatdoor", sum := "c2c3d4229a10348ecc4f0112efb80b32a11d0afb9c0fe171981da64f4eb73f16", func := "nacre/nacrelaw16.SlabBack", spec := "slabBack", unfollowed := true, recurses := true, named := ["nacre/class.slots"], apart := false, laid := [("nacre/class.slots", laid_nacre_class_slots)] }
def SlabBackSaid : Prop := slabBackRow.holds Tryz.pinned (OpenSpec.ofChange slabBackSpec)

/-- ITS FALSE NEIGHBOUR: 'it returns false'. Refute it at one input. -/
def slabBackWrong : ChangeSpec := { name := "slabBack", fn := fun _ => fun
  | [d1, d2, d3] => { results := [.lit (.bool false)], args := [d1, d2, d3] }
  | _ => none }
def SlabBackWrongFalsely : Prop := slabBackRow.holds Tryz.pinned (OpenSpec.ofChange slabBackWrong)

/- THE SECOND FORM. 'bulk': how many values and letters a reading holds, each counted each time it is reached (what is shared counts as often as it is met; a slice's spare places count too). A statement '..UptoSaid' is the law's where the arguments, and the package variables that the reading takes, are together of bulk at most 1048576: NARROWER than '..Said'. Prove '..Said' where nothing that the law and all that it calls make is longer than what came in: it says more and counts as full. Else prove '..UptoSaid'. A law counts once. -/
mutual
def uptoBulk {H : Type} : DataW H → Nat
  | .lit (.string bytes) => bytes.length + 1
  | .lit _ => 1
  | .nil => 1
  | .ptr d => uptoBulk d + 1
  | .slice elems spare => uptoBulkAll elems + uptoBulkAll spare + 1
  | .agg parts => uptoBulkAll parts + 1
  | .iface _ d => uptoBulk d + 1
  | .map entries => uptoBulkEntries entries + 1
  | .held _ => 1
def uptoBulkAll {H : Type} : List (DataW H) → Nat
  | [] => 0
  | d :: r => uptoBulk d + uptoBulkAll r
def uptoBulkEntries {H : Type} : List (Lit × DataW H) → Nat
  | [] => 0
  | x :: r => uptoBulkEntry x + uptoBulkEntries r
def uptoBulkEntry {H : Type} : Lit × DataW H → Nat
  | (.string bytes, d) => bytes.length + uptoBulk d + 1
  | (_, d) => uptoBulk d + 1
 end
def uptoSmall : (H : Type) → List (DataW H) → Bool := fun _ ds => decide (uptoBulkAll ds ≤ 1048576)
def OpenSpec.upto (s : _root_.Go.ChangeSpec) : _root_.Go.OpenSpec := { _root_.Go.OpenSpec.ofChange s with cond := some uptoSmall }

/-- 'nacrelaw16.SlabPicks', WHERE WHAT IT READS IS OF BULK AT MOST 1048576: true; the input reads as it did. -/
def slabPicksUptoRow : OpenClaim := { program := "ytioolaaphbddbaagreatdoor", sum := "c2c3d4229a10348ecc4f0112efb80b32a11d0afb9c0fe171981da64f4eb73f16", func := "nacre/nacrelaw16.SlabPicks", spec := "slabPicks", unfollowed := true, recurses := true, named := ["nacre/class.slots"], apart := false, laid := [("nacre/class.slots", laid_nacre_class_slots)], narrowed := true }
def SlabPicksUptoSaid : Prop := slabPicksUptoRow.holds Tryz.pinned (OpenSpec.upto slabPicksSpec)

/-- 'nacrelaw16.SlabGives', WHERE WHAT IT READS IS OF BULK AT MOST 1048576: true; the input reads as it did. -/
def slabGivesUptoRow : OpenClaim := { program := "ytioolaaphbddbaagreatdoor", sum := "c2c3d4229a10348ecc4f0112efb80b32a11d0afb9c0fe171981da64f4eb73f16", func := "nacre/nacrelaw16.SlabGives", spec := "slabGives", unfollowed := true, recurses := true, named := ["nacre/class.slots"], apart := false, laid := [("nacre/class.slots", laid_nacre_class_slots)], narrowed := true }
def SlabGivesUptoSaid : Prop := slabGivesUptoRow.holds Tryz.pinned (OpenSpec.upto slabGivesSpec)

/-- 'nacrelaw16.SlabKeeps', WHERE WHAT IT READS IS OF BULK AT MOST 1048576: true; the input reads as it did. -/
def slabKeepsUptoRow : OpenClaim := { program := "ytioolaaphbddbaagreatdoor", sum := "c2c3d4229a10348ecc4f0112efb80b32a11d0afb9c0fe171981da64f4eb73f16", func := "nacre/nacrelaw16.SlabKeeps", spec := "slabKeeps", unfollowed := true, recurses := true, named := ["nacre/class.slots"], apart := false, laid := [("nacre/class.slots", laid_nacre_class_slots)], narrowed := true }
def SlabKeepsUptoSaid : Prop := slabKeepsUptoRow.holds Tryz.pinned (OpenSpec.upto slabKeepsSpec)

/-- 'nacrelaw16.SlabBack', WHERE WHAT IT READS IS OF BULK AT MOST 1048576: true; the input reads as it did. -/
def slabBackUptoRow : OpenClaim := { program := "ytioolaaphbddbaagreatdoor", sum := "c2c3d4229a10348ecc4f0112efb80b32a11d0afb9c0fe171981da64f4eb73f16", func := "nacre/nacrelaw16.SlabBack", spec := "slabBack", unfollowed := true, recurses := true, named := ["nacre/class.slots"], apart := false, laid := [("nacre/class.slots", laid_nacre_class_slots)], narrowed := true }
def SlabBackUptoSaid : Prop := slabBackUptoRow.holds Tryz.pinned (OpenSpec.upto slabBackSpec)

end Rows
end Go.Proofs.YtioolaaphbddbaaGreatDoor
