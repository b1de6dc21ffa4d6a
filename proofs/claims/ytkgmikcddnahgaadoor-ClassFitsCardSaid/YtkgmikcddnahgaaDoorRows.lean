/-
  NARROWER THAN 'FOR EVERY INPUT', by the rows' own cells (each row's printed sentence says how): ClassTables: laid · ClassOf: laid · ClassFits: laid.
  DERIVED. THE GIVEN ROWS OF THIS SEAT. 3 by the template 'for every input the law returns true; each argument reads behind the call as it read before'; 0 by the template 'total and deterministic' (their statements: YtkgmikcddnahgaaDoorTotals.lean).
  GIVEN WITH THE SEED: the statements are not yours to turn. If you find one false, say at which input.
  Laid BY PROGRAM, IN A SANDBOX (cutbox-rows.mjs): the forced cells as the released guide's own fill.sh prints them over the translation 8142a62c3519f453… (all of the seat's roots in one cut). By AI agents, Wed Nov 11 2026. No macro, syntax, notation, axiom, sorry.
-/
import Derived.Test.YtkgmikcddnahgaaDoorChecked
import GoSem.Claim
import GoSem.ClaimJoined
import GoSem.ClaimMapViews
import Derived.JoinedTies
import Derived.KernelRfl
namespace Go.Proofs.YtkgmikcddnahgaaDoor
/- THE CELL 'sum', in the pinned program and in every row, IS THE sha256 OF THE DUMP (.gsa) THAT YtkgmikcddnahgaaDoorProg.lean LOADS. Nothing in Lean hashes anything: it is a label: what it is worth is what the hold of that sum in a sandbox is worth. -/
noncomputable def Tryd.pinned : Pinned := { name := "ytkgmikcddnahgaadoor", sum := "8142a62c3519f4530f7b819008d5b5de1e656fccc6e11691de29e704b5fd4191", checked := Tryd.checked }
namespace Rows
def none {H : Type} : Left H := { results := [], args := [] }

/- WHAT THE LISTED PACKAGE-LEVEL VARIABLES READ AS WHEN THE CALL BEGINS. Each datum BY PROGRAM (the guide's laid-datum.mjs) off the statement by which the dump's own 'gosem.cut.vars' lays the variable. In a bare row this is a premise. The card (YtkgmikcddnahgaaDoorCards.lean) ties it to the program's text. -/
def laid_nacre_class_slots {H : Type} : DataW H := .agg [.lit (.int .i64 32), .lit (.int .i64 21), .lit (.int .i64 16), .lit (.int .i64 10), .lit (.int .i64 8), .lit (.int .i64 5), .lit (.int .i64 4), .lit (.int .i64 3), .lit (.int .i64 2)]

/-- 'nacrelaw05.ClassTables': WHATEVER THE INPUT: true; the input reads as it did. -/
def classTablesSpec : ChangeSpec := { name := "classTables", fn := fun _ => fun
  | [d1, d2] => { results := [.lit (.bool true)], args := [d1, d2] }
  | _ => none }
def classTablesRow : OpenClaim := { program := "ytkgmikcddnahgaadoor", sum := "8142a62c3519f4530f7b819008d5b5de1e656fccc6e11691de29e704b5fd4191", func := "nacre/nacrelaw05.ClassTables", spec := "classTables", unfollowed := true, recurses := true, named := ["nacre/class.slots"], apart := false, laid := [("nacre/class.slots", laid_nacre_class_slots)] }
def ClassTablesSaid : Prop := classTablesRow.holds Tryd.pinned (OpenSpec.ofChange classTablesSpec)

/-- ITS FALSE NEIGHBOUR: 'it returns false'. Refute it at one input. -/
def classTablesWrong : ChangeSpec := { name := "classTables", fn := fun _ => fun
  | [d1, d2] => { results := [.lit (.bool false)], args := [d1, d2] }
  | _ => none }
def ClassTablesWrongFalsely : Prop := classTablesRow.holds Tryd.pinned (OpenSpec.ofChange classTablesWrong)

/-- 'nacrelaw05.ClassOf': WHATEVER THE INPUT: true; the input reads as it did. -/
def classOfSpec : ChangeSpec := { name := "classOf", fn := fun _ => fun
  | [d1, d2] => { results := [.lit (.bool true)], args := [d1, d2] }
  | _ => none }
def classOfRow : OpenClaim := { program := "ytkgmikcddnahgaadoor", sum := "8142a62c3519f4530f7b819008d5b5de1e656fccc6e11691de29e704b5fd4191", func := "nacre/nacrelaw05.ClassOf", spec := "classOf", unfollowed := true, recurses := true, named := ["nacre/class.slots"], apart := false, laid := [("nacre/class.slots", laid_nacre_class_slots)] }
def ClassOfSaid : Prop := classOfRow.holds Tryd.pinned (OpenSpec.ofChange classOfSpec)

/-- ITS FALSE NEIGHBOUR: 'it returns false'. Refute it at one input. -/
def classOfWrong : ChangeSpec := { name := "classOf", fn := fun _ => fun
  | [d1, d2] => { results := [.lit (.bool false)], args := [d1, d2] }
  | _ => none }
def ClassOfWrongFalsely : Prop := classOfRow.holds Tryd.pinned (OpenSpec.ofChange classOfWrong)

/-- 'nacrelaw05.ClassFits': WHATEVER THE INPUT: true; the input reads as it did. -/
def classFitsSpec : ChangeSpec := { name := "classFits", fn := fun _ => fun
  | [d1, d2] => { results := [.lit (.bool true)], args := [d1, d2] }
  | _ => none }
def classFitsRow : OpenClaim := { program := "ytkgmikcddnahgaadoor", sum := "8142a62c3519f4530f7b819008d5b5de1e656fccc6e11691de29e704b5fd4191", func := "nacre/nacrelaw05.ClassFits", spec := "classFits", unfollowed := true, recurses := true, named := ["nacre/class.slots"], apart := false, laid := [("nacre/class.slots", laid_nacre_class_slots)] }
def ClassFitsSaid : Prop := classFitsRow.holds Tryd.pinned (OpenSpec.ofChange classFitsSpec)

/-- ITS FALSE NEIGHBOUR: 'it returns false'. Refute it at one input. -/
def classFitsWrong : ChangeSpec := { name := "classFits", fn := fun _ => fun
  | [d1, d2] => { results := [.lit (.bool false)], args := [d1, d2] }
  | _ => none }
def ClassFitsWrongFalsely : Prop := classFitsRow.holds Tryd.pinned (OpenSpec.ofChange classFitsWrong)

/- THE SECOND FORM. 'bulk': how many values and letters a reading holds, each counted each time it is reached (what is shared counts as often as it is met; a slice's spare places count too). A statement '..UptoSaid' is the law's where the arguments, and the package variables that the reading takes, are together of bulk at most 1048576: NARROWER than '..Said'. Prove '..Said' where nothing that the law and all that it calls make is longer than what came in: it says more and counts as full. Else prove '..UptoSaid'. A law counts once. -/
mutual
def uptoBulk {H : Type} : DataW H → Nat
  | .lit (.string bytes) => bytes.length + 1
  | .lit _ => 1
  | .nil => 1
  | .ptr d => uptoBulk d + 1
  | .slice elems spare => uptoBulkAll elems + uptoBulkAll spare + 1
  | .agg parts => uptoBulkAll parts + 1
  | .iface _ d => uptoBulk d + 1
  | .map entries => uptoBulkEntries entries + 1
  | .held _ => 1
def uptoBulkAll {H : Type} : List (DataW H) → Nat
  | [] => 0
  | d :: r => uptoBulk d + uptoBulkAll r
def uptoBulkEntries {H : Type} : List (Lit × DataW H) → Nat
  | [] => 0
  | x :: r => uptoBulkEntry x + uptoBulkEntries r
def uptoBulkEntry {H : Type} : Lit × DataW H → Nat
  | (.string bytes, d) => bytes.length + uptoBulk d + 1
  | (_, d) => uptoBulk d + 1
 end
def uptoSmall : (H : Type) → List (DataW H) → Bool := fun _ ds => decide (uptoBulkAll ds ≤ 1048576)
def OpenSpec.upto (s : _root_.Go.ChangeSpec) : _root_.Go.OpenSpec := { _root_.Go.OpenSpec.ofChange s with cond := some uptoSmall }

/-- 'nacrelaw05.ClassTables', WHERE WHAT IT READS IS OF BULK AT MOST 1048576: true; the input reads as it did. -/
def classTablesUptoRow : OpenClaim := { program := "ytkgmikcddnahgaadoor", sum := "8142a62c3519f4530f7b819008d5b5de1e656fccc6e11691de29e704b5fd4191", func := "nacre/nacrelaw05.ClassTables", spec := "classTables", unfollowed := true, recurses := true, named := ["nacre/class.slots"], apart := false, laid := [("nacre/class.slots", laid_nacre_class_slots)], narrowed := true }
def ClassTablesUptoSaid : Prop := classTablesUptoRow.holds Tryd.pinned (OpenSpec.upto classTablesSpec)

/-- 'nacrelaw05.ClassOf', WHERE WHAT IT READS IS OF BULK AT MOST 1048576: true; the input reads as it did. -/
def classOfUptoRow : OpenClaim := { program := "ytkgmikcddnahgaadoor", sum := "8142a62c3519f4530f7b819008d5b5de1e656fccc6e11691de29e704b5fd4191", func := "nacre/nacrelaw05.ClassOf", spec := "classOf", unfollowed := true, recurses := true, named := ["nacre/class.slots"], apart := false, laid := [("nacre/class.slots", laid_nacre_class_slots)], narrowed := true }
def ClassOfUptoSaid : Prop := classOfUptoRow.holds Tryd.pinned (OpenSpec.upto classOfSpec)

/-- 'nacrelaw05.ClassFits', WHERE WHAT IT READS IS OF BULK AT MOST 1048576: true; the input reads as it did. -/
def classFitsUptoRow : OpenClaim := { program := "ytkgmikcddnahgaadoor", sum := "8142a62c3519f4530f7b819008d5b5de1e656fccc6e11691de29e704b5fd4191", func := "nacre/nacrelaw05.ClassFits", spec := "classFits", unfollowed := true, recurses := true, named := ["nacre/class.slots"], apart := false, laid := [("nacre/class.slots", laid_nacre_class_slots)], narrowed := true }
def ClassFitsUptoSaid : Prop := classFitsUptoRow.holds Tryd.pinned (OpenSpec.upto classFitsSpec)

end Rows
end Go.Proofs.YtkgmikcddnahgaaDoor
