/-
  No cell of these rows narrows 'for every input' (looked for: loops, veiled, ifaces, maps, wideKeys, modest, calm, conditions, laid).
  DERIVED. THE GIVEN ROWS OF THIS SEAT. 3 by the template 'for every input the law returns true; each argument reads behind the call as it read before'; 0 by the template 'total and deterministic' (their statements: YtmjkljdnioochaaTotals.lean).
  GIVEN WITH THE SEED: the statements are not yours to turn. If you find one false, say at which input.
  Laid BY PROGRAM, IN A SANDBOX (cutbox-rows.mjs): the forced cells as the released guide's own fill.sh prints them over the translation d62aafb2ed070089… (all of the seat's roots in one cut). By AI agents, Wed Nov 11 2026. No macro, syntax, notation, axiom, sorry.
-/
import Derived.Test.YtmjkljdnioochaaChecked
import GoSem.Claim
import GoSem.ClaimJoined
import GoSem.ClaimMapViews
import Derived.JoinedTies
import Derived.KernelRfl
namespace Go.Proofs.Ytmjkljdnioochaa
/- THE CELL 'sum', in the pinned program and in every row, IS THE sha256 OF THE DUMP (.gsa) THAT YtmjkljdnioochaaProg.lean LOADS. Nothing in Lean hashes anything: it is a label: what it is worth is what the hold of that sum in a sandbox is worth. -/
noncomputable def Try.pinned : Pinned := { name := "ytmjkljdnioochaa", sum := "d62aafb2ed07008982ab4ef0ec0eb73945d6a58dafe7f7070a6c9605aa6e6912", checked := Try.checked }
namespace Rows
def none {H : Type} : Left H := { results := [], args := [] }

/-- 'nacrelaw27.RedoLogs': WHATEVER THE INPUT: true; the input reads as it did. -/
def redoLogsSpec : ChangeSpec := { name := "redoLogs", fn := fun _ => fun
  | [d1, d2, d3] => { results := [.lit (.bool true)], args := [d1, d2, d3] }
  | _ => none }
def redoLogsRow : OpenClaim := { program := "ytmjkljdnioochaa", sum := "d62aafb2ed07008982ab4ef0ec0eb73945d6a58dafe7f7070a6c9605aa6e6912", func := "nacre/nacrelaw27.RedoLogs", spec := "redoLogs", unfollowed := true, recurses := true, apart := false }
def RedoLogsSaid : Prop := redoLogsRow.holds Try.pinned (OpenSpec.ofChange redoLogsSpec)

/-- ITS FALSE NEIGHBOUR: 'it returns false'. Refute it at one input. -/
def redoLogsWrong : ChangeSpec := { name := "redoLogs", fn := fun _ => fun
  | [d1, d2, d3] => { results := [.lit (.bool false)], args := [d1, d2, d3] }
  | _ => none }
def RedoLogsWrongFalsely : Prop := redoLogsRow.holds Try.pinned (OpenSpec.ofChange redoLogsWrong)

/-- 'nacrelaw27.RedoPart': WHATEVER THE INPUT: true; the input reads as it did. -/
def redoPartSpec : ChangeSpec := { name := "redoPart", fn := fun _ => fun
  | [d1, d2, d3] => { results := [.lit (.bool true)], args := [d1, d2, d3] }
  | _ => none }
def redoPartRow : OpenClaim := { program := "ytmjkljdnioochaa", sum := "d62aafb2ed07008982ab4ef0ec0eb73945d6a58dafe7f7070a6c9605aa6e6912", func := "nacre/nacrelaw27.RedoPart", spec := "redoPart", unfollowed := true, recurses := true, apart := false }
def RedoPartSaid : Prop := redoPartRow.holds Try.pinned (OpenSpec.ofChange redoPartSpec)

/-- ITS FALSE NEIGHBOUR: 'it returns false'. Refute it at one input. -/
def redoPartWrong : ChangeSpec := { name := "redoPart", fn := fun _ => fun
  | [d1, d2, d3] => { results := [.lit (.bool false)], args := [d1, d2, d3] }
  | _ => none }
def RedoPartWrongFalsely : Prop := redoPartRow.holds Try.pinned (OpenSpec.ofChange redoPartWrong)

/-- 'nacrelaw27.RedoOnce': WHATEVER THE INPUT: true; the input reads as it did. -/
def redoOnceSpec : ChangeSpec := { name := "redoOnce", fn := fun _ => fun
  | [d1, d2] => { results := [.lit (.bool true)], args := [d1, d2] }
  | _ => none }
def redoOnceRow : OpenClaim := { program := "ytmjkljdnioochaa", sum := "d62aafb2ed07008982ab4ef0ec0eb73945d6a58dafe7f7070a6c9605aa6e6912", func := "nacre/nacrelaw27.RedoOnce", spec := "redoOnce", unfollowed := true, recurses := true, apart := false }
def RedoOnceSaid : Prop := redoOnceRow.holds Try.pinned (OpenSpec.ofChange redoOnceSpec)

/-- ITS FALSE NEIGHBOUR: 'it returns false'. Refute it at one input. -/
def redoOnceWrong : ChangeSpec := { name := "redoOnce", fn := fun _ => fun
  | [d1, d2] => { results := [.lit (.bool false)], args := [d1, d2] }
  | _ => none }
def RedoOnceWrongFalsely : Prop := redoOnceRow.holds Try.pinned (OpenSpec.ofChange redoOnceWrong)

/- THE SECOND FORM. 'bulk': how many values and letters a reading holds, each counted each time it is reached (what is shared counts as often as it is met; a slice's spare places count too). A statement '..UptoSaid' is the law's where the arguments, and the package variables that the reading takes, are together of bulk at most 1048576: NARROWER than '..Said'. Prove '..Said' where nothing that the law and all that it calls make is longer than what came in: it says more and counts as full. Else prove '..UptoSaid'. A law counts once. -/
mutual
def uptoBulk {H : Type} : DataW H → Nat
  | .lit (.string bytes) => bytes.length + 1
  | .lit _ => 1
  | .nil => 1
  | .ptr d => uptoBulk d + 1
  | .slice elems spare => uptoBulkAll elems + uptoBulkAll spare + 1
  | .agg parts => uptoBulkAll parts + 1
  | .iface _ d => uptoBulk d + 1
  | .map entries => uptoBulkEntries entries + 1
  | .held _ => 1
def uptoBulkAll {H : Type} : List (DataW H) → Nat
  | [] => 0
  | d :: r => uptoBulk d + uptoBulkAll r
def uptoBulkEntries {H : Type} : List (Lit × DataW H) → Nat
  | [] => 0
  | x :: r => uptoBulkEntry x + uptoBulkEntries r
def uptoBulkEntry {H : Type} : Lit × DataW H → Nat
  | (.string bytes, d) => bytes.length + uptoBulk d + 1
  | (_, d) => uptoBulk d + 1
 end
def uptoSmall : (H : Type) → List (DataW H) → Bool := fun _ ds => decide (uptoBulkAll ds ≤ 1048576)
def OpenSpec.upto (s : _root_.Go.ChangeSpec) : _root_.Go.OpenSpec := { _root_.Go.OpenSpec.ofChange s with cond := some uptoSmall }

/-- 'nacrelaw27.RedoLogs', WHERE WHAT IT READS IS OF BULK AT MOST 1048576: true; the input reads as it did. -/
def redoLogsUptoRow : OpenClaim := { program := "ytmjkljdnioochaa", sum := "d62aafb2ed07008982ab4ef0ec0eb73945d6a58dafe7f7070a6c9605aa6e6912", func := "nacre/nacrelaw27.RedoLogs", spec := "redoLogs", unfollowed := true, recurses := true, apart := false, narrowed := true }
def RedoLogsUptoSaid : Prop := redoLogsUptoRow.holds Try.pinned (OpenSpec.upto redoLogsSpec)

/-- 'nacrelaw27.RedoPart', WHERE WHAT IT READS IS OF BULK AT MOST 1048576: true; the input reads as it did. -/
def redoPartUptoRow : OpenClaim := { program := "ytmjkljdnioochaa", sum := "d62aafb2ed07008982ab4ef0ec0eb73945d6a58dafe7f7070a6c9605aa6e6912", func := "nacre/nacrelaw27.RedoPart", spec := "redoPart", unfollowed := true, recurses := true, apart := false, narrowed := true }
def RedoPartUptoSaid : Prop := redoPartUptoRow.holds Try.pinned (OpenSpec.upto redoPartSpec)

/-- 'nacrelaw27.RedoOnce', WHERE WHAT IT READS IS OF BULK AT MOST 1048576: true; the input reads as it did. -/
def redoOnceUptoRow : OpenClaim := { program := "ytmjkljdnioochaa", sum := "d62aafb2ed07008982ab4ef0ec0eb73945d6a58dafe7f7070a6c9605aa6e6912", func := "nacre/nacrelaw27.RedoOnce", spec := "redoOnce", unfollowed := true, recurses := true, apart := false, narrowed := true }
def RedoOnceUptoSaid : Prop := redoOnceUptoRow.holds Try.pinned (OpenSpec.upto redoOnceSpec)

end Rows
end Go.Proofs.Ytmjkljdnioochaa
