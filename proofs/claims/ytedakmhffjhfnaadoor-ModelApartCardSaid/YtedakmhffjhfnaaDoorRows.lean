/-
  NARROWER THAN 'FOR EVERY INPUT', by the rows' own cells (each row's printed sentence says how): ModelAllows: laid · ModelRuns: laid · ModelApart: laid.
  DERIVED. THE GIVEN ROWS OF THIS SEAT. 3 by the template 'for every input the law returns true; each argument reads behind the call as it read before'; 0 by the template 'total and deterministic' (their statements: YtedakmhffjhfnaaDoorTotals.lean).
  GIVEN WITH THE SEED: the statements are not yours to turn. If you find one false, say at which input.
  Laid BY PROGRAM, IN A SANDBOX (cutbox-rows.mjs): the forced cells as the released guide's own fill.sh prints them over the translation 69c0fe88d7c9d9dd… (all of the seat's roots in one cut). By AI agents, Wed Nov 11 2026. No macro, syntax, notation, axiom, sorry.
-/
import Derived.Test.YtedakmhffjhfnaaDoorChecked
import GoSem.Claim
import GoSem.ClaimJoined
import GoSem.ClaimMapViews
import Derived.JoinedTies
import Derived.KernelRfl
namespace Go.Proofs.YtedakmhffjhfnaaDoor
/- THE CELL 'sum', in the pinned program and in every row, IS THE sha256 OF THE DUMP (.gsa) THAT YtedakmhffjhfnaaDoorProg.lean LOADS. Nothing in Lean hashes anything: it is a label: what it is worth is what the hold of that sum in a sandbox is worth. -/
noncomputable def Tryd.pinned : Pinned := { name := "ytedakmhffjhfnaadoor", sum := "69c0fe88d7c9d9ddaf93a9b3a8bdc3ab1d33087011b80be5e2fbd59774be3d7a", checked := Tryd.checked }
namespace Rows
def none {H : Type} : Left H := { results := [], args := [] }

/- WHAT THE LISTED PACKAGE-LEVEL VARIABLES READ AS WHEN THE CALL BEGINS. Each datum BY PROGRAM (the guide's laid-datum.mjs) off the statement by which the dump's own 'gosem.cut.vars' lays the variable. In a bare row this is a premise. The card (YtedakmhffjhfnaaDoorCards.lean) ties it to the program's text. -/
def laid_nacre_class_slots {H : Type} : DataW H := .agg [.lit (.int .i64 32), .lit (.int .i64 21), .lit (.int .i64 16), .lit (.int .i64 10), .lit (.int .i64 8), .lit (.int .i64 5), .lit (.int .i64 4), .lit (.int .i64 3), .lit (.int .i64 2)]

/-- 'nacrelaw26.ModelAllows': WHATEVER THE INPUT: true; the input reads as it did. -/
def modelAllowsSpec : ChangeSpec := { name := "modelAllows", fn := fun _ => fun
  | [d1, d2, d3] => { results := [.lit (.bool true)], args := [d1, d2, d3] }
  | _ => none }
def modelAllowsRow : OpenClaim := { program := "ytedakmhffjhfnaadoor", sum := "69c0fe88d7c9d9ddaf93a9b3a8bdc3ab1d33087011b80be5e2fbd59774be3d7a", func := "nacre/nacrelaw26.ModelAllows", spec := "modelAllows", unfollowed := true, recurses := true, named := ["nacre/class.slots"], plainKeys := false, apart := false, laid := [("nacre/class.slots", laid_nacre_class_slots)] }
def ModelAllowsSaid : Prop := modelAllowsRow.holds Tryd.pinned (OpenSpec.ofChange modelAllowsSpec)

/-- ITS FALSE NEIGHBOUR: 'it returns false'. Refute it at one input. -/
def modelAllowsWrong : ChangeSpec := { name := "modelAllows", fn := fun _ => fun
  | [d1, d2, d3] => { results := [.lit (.bool false)], args := [d1, d2, d3] }
  | _ => none }
def ModelAllowsWrongFalsely : Prop := modelAllowsRow.holds Tryd.pinned (OpenSpec.ofChange modelAllowsWrong)

/-- 'nacrelaw26.ModelRuns': WHATEVER THE INPUT: true; the input reads as it did. -/
def modelRunsSpec : ChangeSpec := { name := "modelRuns", fn := fun _ => fun
  | [d1, d2] => { results := [.lit (.bool true)], args := [d1, d2] }
  | _ => none }
def modelRunsRow : OpenClaim := { program := "ytedakmhffjhfnaadoor", sum := "69c0fe88d7c9d9ddaf93a9b3a8bdc3ab1d33087011b80be5e2fbd59774be3d7a", func := "nacre/nacrelaw26.ModelRuns", spec := "modelRuns", unfollowed := true, recurses := true, named := ["nacre/class.slots"], plainKeys := false, apart := false, laid := [("nacre/class.slots", laid_nacre_class_slots)] }
def ModelRunsSaid : Prop := modelRunsRow.holds Tryd.pinned (OpenSpec.ofChange modelRunsSpec)

/-- ITS FALSE NEIGHBOUR: 'it returns false'. Refute it at one input. -/
def modelRunsWrong : ChangeSpec := { name := "modelRuns", fn := fun _ => fun
  | [d1, d2] => { results := [.lit (.bool false)], args := [d1, d2] }
  | _ => none }
def ModelRunsWrongFalsely : Prop := modelRunsRow.holds Tryd.pinned (OpenSpec.ofChange modelRunsWrong)

/-- 'nacrelaw26.ModelApart': WHATEVER THE INPUT: true; the input reads as it did. -/
def modelApartSpec : ChangeSpec := { name := "modelApart", fn := fun _ => fun
  | [d1, d2] => { results := [.lit (.bool true)], args := [d1, d2] }
  | _ => none }
def modelApartRow : OpenClaim := { program := "ytedakmhffjhfnaadoor", sum := "69c0fe88d7c9d9ddaf93a9b3a8bdc3ab1d33087011b80be5e2fbd59774be3d7a", func := "nacre/nacrelaw26.ModelApart", spec := "modelApart", unfollowed := true, recurses := true, named := ["nacre/class.slots"], plainKeys := false, apart := false, laid := [("nacre/class.slots", laid_nacre_class_slots)] }
def ModelApartSaid : Prop := modelApartRow.holds Tryd.pinned (OpenSpec.ofChange modelApartSpec)

/-- ITS FALSE NEIGHBOUR: 'it returns false'. Refute it at one input. -/
def modelApartWrong : ChangeSpec := { name := "modelApart", fn := fun _ => fun
  | [d1, d2] => { results := [.lit (.bool false)], args := [d1, d2] }
  | _ => none }
def ModelApartWrongFalsely : Prop := modelApartRow.holds Tryd.pinned (OpenSpec.ofChange modelApartWrong)

/- THE SECOND FORM. 'bulk': how many values and letters a reading holds, each counted each time it is reached (what is shared counts as often as it is met; a slice's spare places count too). A statement '..UptoSaid' is the law's where the arguments, and the package variables that the reading takes, are together of bulk at most 1048576: NARROWER than '..Said'. Prove '..Said' where nothing that the law and all that it calls make is longer than what came in: it says more and counts as full. Else prove '..UptoSaid'. A law counts once. -/
mutual
def uptoBulk {H : Type} : DataW H → Nat
  | .lit (.string bytes) => bytes.length + 1
  | .lit _ => 1
  | .nil => 1
  | .ptr d => uptoBulk d + 1
  | .slice elems spare => uptoBulkAll elems + uptoBulkAll spare + 1
  | .agg parts => uptoBulkAll parts + 1
  | .iface _ d => uptoBulk d + 1
  | .map entries => uptoBulkEntries entries + 1
  | .held _ => 1
def uptoBulkAll {H : Type} : List (DataW H) → Nat
  | [] => 0
  | d :: r => uptoBulk d + uptoBulkAll r
def uptoBulkEntries {H : Type} : List (Lit × DataW H) → Nat
  | [] => 0
  | x :: r => uptoBulkEntry x + uptoBulkEntries r
def uptoBulkEntry {H : Type} : Lit × DataW H → Nat
  | (.string bytes, d) => bytes.length + uptoBulk d + 1
  | (_, d) => uptoBulk d + 1
 end
def uptoSmall : (H : Type) → List (DataW H) → Bool := fun _ ds => decide (uptoBulkAll ds ≤ 1048576)
def OpenSpec.upto (s : _root_.Go.ChangeSpec) : _root_.Go.OpenSpec := { _root_.Go.OpenSpec.ofChange s with cond := some uptoSmall }

/-- 'nacrelaw26.ModelAllows', WHERE WHAT IT READS IS OF BULK AT MOST 1048576: true; the input reads as it did. -/
def modelAllowsUptoRow : OpenClaim := { program := "ytedakmhffjhfnaadoor", sum := "69c0fe88d7c9d9ddaf93a9b3a8bdc3ab1d33087011b80be5e2fbd59774be3d7a", func := "nacre/nacrelaw26.ModelAllows", spec := "modelAllows", unfollowed := true, recurses := true, named := ["nacre/class.slots"], plainKeys := false, apart := false, laid := [("nacre/class.slots", laid_nacre_class_slots)], narrowed := true }
def ModelAllowsUptoSaid : Prop := modelAllowsUptoRow.holds Tryd.pinned (OpenSpec.upto modelAllowsSpec)

/-- 'nacrelaw26.ModelRuns', WHERE WHAT IT READS IS OF BULK AT MOST 1048576: true; the input reads as it did. -/
def modelRunsUptoRow : OpenClaim := { program := "ytedakmhffjhfnaadoor", sum := "69c0fe88d7c9d9ddaf93a9b3a8bdc3ab1d33087011b80be5e2fbd59774be3d7a", func := "nacre/nacrelaw26.ModelRuns", spec := "modelRuns", unfollowed := true, recurses := true, named := ["nacre/class.slots"], plainKeys := false, apart := false, laid := [("nacre/class.slots", laid_nacre_class_slots)], narrowed := true }
def ModelRunsUptoSaid : Prop := modelRunsUptoRow.holds Tryd.pinned (OpenSpec.upto modelRunsSpec)

/-- 'nacrelaw26.ModelApart', WHERE WHAT IT READS IS OF BULK AT MOST 1048576: true; the input reads as it did. -/
def modelApartUptoRow : OpenClaim := { program := "ytedakmhffjhfnaadoor", sum := "69c0fe88d7c9d9ddaf93a9b3a8bdc3ab1d33087011b80be5e2fbd59774be3d7a", func := "nacre/nacrelaw26.ModelApart", spec := "modelApart", unfollowed := true, recurses := true, named := ["nacre/class.slots"], plainKeys := false, apart := false, laid := [("nacre/class.slots", laid_nacre_class_slots)], narrowed := true }
def ModelApartUptoSaid : Prop := modelApartUptoRow.holds Tryd.pinned (OpenSpec.upto modelApartSpec)

end Rows
end Go.Proofs.YtedakmhffjhfnaaDoor
