/-
  NARROWER THAN 'FOR EVERY INPUT', by the rows' own cells (each row's printed sentence says how): SweepPages: laid · SweepKeeps: laid · SweepAny: laid.
  DERIVED. THE GIVEN ROWS OF THIS SEAT. 3 by the template 'for every input the law returns true; each argument reads behind the call as it read before'; 0 by the template 'total and deterministic' (their statements: YtnmhdlpnimdffaaGreatDoorTotals.lean).
  GIVEN WITH THE SEED: the statements are not yours to turn. If you find one false, say at which input.
  Laid BY PROGRAM, IN A SANDBOX (cutbox-rows.mjs): the forced cells as the released guide's own fill.sh prints them over the translation 6d88180b2ad6784c… (all of the seat's roots in one cut). By AI agents, Wed Nov 11 2026. No macro, syntax, notation, axiom, sorry.
-/
import Derived.Test.YtnmhdlpnimdffaaGreatDoorChecked
import GoSem.Claim
import GoSem.ClaimJoined
import GoSem.ClaimMapViews
import Derived.JoinedTies
import Derived.KernelRfl
namespace Go.Proofs.YtnmhdlpnimdffaaGreatDoor
/- THE CELL 'sum', in the pinned program and in every row, IS THE sha256 OF THE DUMP (.gsa) THAT YtnmhdlpnimdffaaGreatDoorProg.lean LOADS. Nothing in Lean hashes anything: it is a label: what it is worth is what the hold of that sum in a sandbox is worth. -/
noncomputable def Tryz.pinned : Pinned := { name := "ytnmhdlpnimdffaagreatdoor", sum := "6d88180b2ad6784ce8422b43162ebe2ed534b10651cb23686e0a13697df1bfa4", checked := Tryz.checked }
namespace Rows
def none {H : Type} : Left H := { results := [], args := [] }

/- WHAT THE LISTED PACKAGE-LEVEL VARIABLES READ AS WHEN THE CALL BEGINS. Each datum BY PROGRAM (the guide's laid-datum.mjs) off the statement by which the dump's own 'gosem.cut.vars' lays the variable. In a bare row this is a premise. The card (YtnmhdlpnimdffaaGreatDoorCards.lean) ties it to the program's text. -/
def laid_nacre_class_slots {H : Type} : DataW H := .agg [.lit (.int .i64 32), .lit (.int .i64 21), .lit (.int .i64 16), .lit (.int .i64 10), .lit (.int .i64 8), .lit (.int .i64 5), .lit (.int .i64 4), .lit (.int .i64 3), .lit (.int .i64 2)]

/-- 'nacrelaw24.SweepPages': WHATEVER THE INPUT: true; the input reads as it did. -/
def sweepPagesSpec : ChangeSpec := { name := "sweepPages", fn := fun _ => fun
  | [d1, d2, d3] => { results := [.lit (.bool true)], args := [d1, d2, d3] }
  | _ => none }
def sweepPagesRow : OpenClaim := { program := "ytnmhdlpnimdffaagreatdoor", sum := "6d88180b2ad6784ce8422b43162ebe2ed534b10651cb23686e0a13697df1bfa4", func := "nacre/nacrelaw24.SweepPages", spec := "sweepPages", unfollowed := true, recurses := true, named := ["nacre/class.slots"], apart := false, laid := [("nacre/class.slots", laid_nacre_class_slots)] }
def SweepPagesSaid : Prop := sweepPagesRow.holds Tryz.pinned (OpenSpec.ofChange sweepPagesSpec)

/-- ITS FALSE NEIGHBOUR: 'it returns false'. Refute it at one input. -/
def sweepPagesWrong : ChangeSpec := { name := "sweepPages", fn := fun _ => fun
  | [d1, d2, d3] => { results := [.lit (.bool false)], args := [d1, d2, d3] }
  | _ => none }
def SweepPagesWrongFalsely : Prop := sweepPagesRow.holds Tryz.pinned (OpenSpec.ofChange sweepPagesWrong)

/-- 'nacrelaw24.SweepKeeps': WHATEVER THE INPUT: true; the input reads as it did. -/
def sweepKeepsSpec : ChangeSpec := { name := "sweepKeeps", fn := fun _ => fun
  | [d1, d2] => { results := [.lit (.bool true)], args := [d1, d2] }
  | _ => none }
def sweepKeepsRow : OpenClaim := { program := "ytnmhdlpnimdffaagreatdoor", sum := "6d88180b2ad6784ce8422b43162ebe2ed534b10651cb23686e0a13697df1bfa4", func := "nacre/nacrelaw24.SweepKeeps", spec := "sweepKeeps", unfollowed := true, recurses := true, named := ["nacre/class.slots"], apart := false, laid := [("nacre/class.slots", laid_nacre_class_slots)] }
def SweepKeepsSaid : Prop := sweepKeepsRow.holds Tryz.pinned (OpenSpec.ofChange sweepKeepsSpec)

/-- ITS FALSE NEIGHBOUR: 'it returns false'. Refute it at one input. -/
def sweepKeepsWrong : ChangeSpec := { name := "sweepKeeps", fn := fun _ => fun
  | [d1, d2] => { results := [.lit (.bool false)], args := [d1, d2] }
  | _ => none }
def SweepKeepsWrongFalsely : Prop := sweepKeepsRow.holds Tryz.pinned (OpenSpec.ofChange sweepKeepsWrong)

/-- 'nacrelaw24.SweepAny': WHATEVER THE INPUT: true; the input reads as it did. -/
def sweepAnySpec : ChangeSpec := { name := "sweepAny", fn := fun _ => fun
  | [d1, d2, d3] => { results := [.lit (.bool true)], args := [d1, d2, d3] }
  | _ => none }
def sweepAnyRow : OpenClaim := { program := "ytnmhdlpnimdffaagreatdoor", sum := "6d88180b2ad6784ce8422b43162ebe2ed534b10651cb23686e0a13697df1bfa4", func := "nacre/nacrelaw24.SweepAny", spec := "sweepAny", unfollowed := true, recurses := true, named := ["nacre/class.slots"], apart := false, laid := [("nacre/class.slots", laid_nacre_class_slots)] }
def SweepAnySaid : Prop := sweepAnyRow.holds Tryz.pinned (OpenSpec.ofChange sweepAnySpec)

/-- ITS FALSE NEIGHBOUR: 'it returns false'. Refute it at one input. -/
def sweepAnyWrong : ChangeSpec := { name := "sweepAny", fn := fun _ => fun
  | [d1, d2, d3] => { results := [.lit (.bool false)], args := [d1, d2, d3] }
  | _ => none }
def SweepAnyWrongFalsely : Prop := sweepAnyRow.holds Tryz.pinned (OpenSpec.ofChange sweepAnyWrong)

/- THE SECOND FORM. 'bulk': how many values and letters a reading holds, each counted each time it is reached (what is shared counts as often as it is met; a slice's spare places count too). A statement '..UptoSaid' is the law's where the arguments, and the package variables that the reading takes, are together of bulk at most 1048576: NARROWER than '..Said'. Prove '..Said' where nothing that the law and all that it calls make is longer than what came in: it says more and counts as full. Else prove '..UptoSaid'. A law counts once. -/
mutual
def uptoBulk {H : Type} : DataW H → Nat
  | .lit (.string bytes) => bytes.length + 1
  | .lit _ => 1
  | .nil => 1
  | .ptr d => uptoBulk d + 1
  | .slice elems spare => uptoBulkAll elems + uptoBulkAll spare + 1
  | .agg parts => uptoBulkAll parts + 1
  | .iface _ d => uptoBulk d + 1
  | .map entries => uptoBulkEntries entries + 1
  | .held _ => 1
def uptoBulkAll {H : Type} : List (DataW H) → Nat
  | [] => 0
  | d :: r => uptoBulk d + uptoBulkAll r
def uptoBulkEntries {H : Type} : List (Lit × DataW H) → Nat
  | [] => 0
  | x :: r => uptoBulkEntry x + uptoBulkEntries r
def uptoBulkEntry {H : Type} : Lit × DataW H → Nat
  | (.string bytes, d) => bytes.length + uptoBulk d + 1
  | (_, d) => uptoBulk d + 1
 end
def uptoSmall : (H : Type) → List (DataW H) → Bool := fun _ ds => decide (uptoBulkAll ds ≤ 1048576)
def OpenSpec.upto (s : _root_.Go.ChangeSpec) : _root_.Go.OpenSpec := { _root_.Go.OpenSpec.ofChange s with cond := some uptoSmall }

/-- 'nacrelaw24.SweepPages', WHERE WHAT IT READS IS OF BULK AT MOST 1048576: true; the input reads as it did. -/
def sweepPagesUptoRow : OpenClaim := { program := "ytnmhdlpnimdffaagreatdoor", sum := "6d88180b2ad6784ce8422b43162ebe2ed534b10651cb23686e0a13697df1bfa4", func := "nacre/nacrelaw24.SweepPages", spec := "sweepPages", unfollowed := true, recurses := true, named := ["nacre/class.slots"], apart := false, laid := [("nacre/class.slots", laid_nacre_class_slots)], narrowed := true }
def SweepPagesUptoSaid : Prop := sweepPagesUptoRow.holds Tryz.pinned (OpenSpec.upto sweepPagesSpec)

/-- 'nacrelaw24.SweepKeeps', WHERE WHAT IT READS IS OF BULK AT MOST 1048576: true; the input reads as it did. -/
def sweepKeepsUptoRow : OpenClaim := { program := "ytnmhdlpnimdffaagreatdoor", sum := "6d88180b2ad6784ce8422b43162ebe2ed534b10651cb23686e0a13697df1bfa4", func := "nacre/nacrelaw24.SweepKeeps", spec := "sweepKeeps", unfollowed := true, recurses := true, named := ["nacre/class.slots"], apart := false, laid := [("nacre/class.slots", laid_nacre_class_slots)], narrowed := true }
def SweepKeepsUptoSaid : Prop := sweepKeepsUptoRow.holds Tryz.pinned (OpenSpec.upto sweepKeepsSpec)

/-- 'nacrelaw24.SweepAny', WHERE WHAT IT READS IS OF BULK AT MOST 1048576: true; the input reads as it did. -/
def sweepAnyUptoRow : OpenClaim := { program := "ytnmhdlpnimdffaagreatdoor", sum := "6d88180b2ad6784ce8422b43162ebe2ed534b10651cb23686e0a13697df1bfa4", func := "nacre/nacrelaw24.SweepAny", spec := "sweepAny", unfollowed := true, recurses := true, named := ["nacre/class.slots"], apart := false, laid := [("nacre/class.slots", laid_nacre_class_slots)], narrowed := true }
def SweepAnyUptoSaid : Prop := sweepAnyUptoRow.holds Tryz.pinned (OpenSpec.upto sweepAnySpec)

end Rows
end Go.Proofs.YtnmhdlpnimdffaaGreatDoor
