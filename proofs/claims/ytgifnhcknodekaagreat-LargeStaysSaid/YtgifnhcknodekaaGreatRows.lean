/-
  No cell of these rows narrows 'for every input' (looked for: loops, veiled, ifaces, maps, wideKeys, modest, calm, conditions, laid).
  DERIVED. THE GIVEN ROWS OF THIS SEAT. 3 by the template 'for every input the law returns true; each argument reads behind the call as it read before'; 0 by the template 'total and deterministic' (their statements: YtgifnhcknodekaaGreatTotals.lean).
  GIVEN WITH THE SEED: the statements are not yours to turn. If you find one false, say at which input.
  Laid BY PROGRAM, IN A SANDBOX (cutbox-rows.mjs): the forced cells as the released guide's own fill.sh prints them over the translation fb9a28d8e2c13ace… (all of the seat's roots in one cut). By AI agents, Wed Nov 11 2026. No macro, syntax, notation, axiom, sorry.
-/
import Derived.Test.YtgifnhcknodekaaGreatChecked
import GoSem.Claim
import GoSem.ClaimJoined
import GoSem.ClaimMapViews
import Derived.JoinedTies
import Derived.KernelRfl
namespace Go.Proofs.YtgifnhcknodekaaGreat
/- THE CELL 'sum', in the pinned program and in every row, IS THE sha256 OF THE DUMP (.gsa) THAT YtgifnhcknodekaaGreatProg.lean LOADS. Nothing in Lean hashes anything: it is a label: what it is worth is what the hold of that sum in a sandbox is worth. -/
noncomputable def Tryz.pinned : Pinned := { name := "ytgifnhcknodekaagreat", sum := "fb9a28d8e2c13aced51992659e35b165e859993ee348e618c9a2ca8c8a34fdc1", checked := Tryz.checked }
namespace Rows
def none {H : Type} : Left H := { results := [], args := [] }

/-- 'nacrelaw19.LargeDoes': WHATEVER THE INPUT: true; the input reads as it did. -/
def largeDoesSpec : ChangeSpec := { name := "largeDoes", fn := fun _ => fun
  | [d1, d2, d3] => { results := [.lit (.bool true)], args := [d1, d2, d3] }
  | _ => none }
def largeDoesRow : OpenClaim := { program := "ytgifnhcknodekaagreat", sum := "fb9a28d8e2c13aced51992659e35b165e859993ee348e618c9a2ca8c8a34fdc1", func := "nacre/nacrelaw19.LargeDoes", spec := "largeDoes", unfollowed := true, recurses := true, apart := false }
def LargeDoesSaid : Prop := largeDoesRow.holds Tryz.pinned (OpenSpec.ofChange largeDoesSpec)

/-- ITS FALSE NEIGHBOUR: 'it returns false'. Refute it at one input. -/
def largeDoesWrong : ChangeSpec := { name := "largeDoes", fn := fun _ => fun
  | [d1, d2, d3] => { results := [.lit (.bool false)], args := [d1, d2, d3] }
  | _ => none }
def LargeDoesWrongFalsely : Prop := largeDoesRow.holds Tryz.pinned (OpenSpec.ofChange largeDoesWrong)

/-- 'nacrelaw19.LargeKeeps': WHATEVER THE INPUT: true; the input reads as it did. -/
def largeKeepsSpec : ChangeSpec := { name := "largeKeeps", fn := fun _ => fun
  | [d1, d2, d3] => { results := [.lit (.bool true)], args := [d1, d2, d3] }
  | _ => none }
def largeKeepsRow : OpenClaim := { program := "ytgifnhcknodekaagreat", sum := "fb9a28d8e2c13aced51992659e35b165e859993ee348e618c9a2ca8c8a34fdc1", func := "nacre/nacrelaw19.LargeKeeps", spec := "largeKeeps", unfollowed := true, recurses := true, apart := false }
def LargeKeepsSaid : Prop := largeKeepsRow.holds Tryz.pinned (OpenSpec.ofChange largeKeepsSpec)

/-- ITS FALSE NEIGHBOUR: 'it returns false'. Refute it at one input. -/
def largeKeepsWrong : ChangeSpec := { name := "largeKeeps", fn := fun _ => fun
  | [d1, d2, d3] => { results := [.lit (.bool false)], args := [d1, d2, d3] }
  | _ => none }
def LargeKeepsWrongFalsely : Prop := largeKeepsRow.holds Tryz.pinned (OpenSpec.ofChange largeKeepsWrong)

/-- 'nacrelaw19.LargeStays': WHATEVER THE INPUT: true; the input reads as it did. -/
def largeStaysSpec : ChangeSpec := { name := "largeStays", fn := fun _ => fun
  | [d1, d2, d3] => { results := [.lit (.bool true)], args := [d1, d2, d3] }
  | _ => none }
def largeStaysRow : OpenClaim := { program := "ytgifnhcknodekaagreat", sum := "fb9a28d8e2c13aced51992659e35b165e859993ee348e618c9a2ca8c8a34fdc1", func := "nacre/nacrelaw19.LargeStays", spec := "largeStays", unfollowed := true, recurses := true, apart := false }
def LargeStaysSaid : Prop := largeStaysRow.holds Tryz.pinned (OpenSpec.ofChange largeStaysSpec)

/-- ITS FALSE NEIGHBOUR: 'it returns false'. Refute it at one input. -/
def largeStaysWrong : ChangeSpec := { name := "largeStays", fn := fun _ => fun
  | [d1, d2, d3] => { results := [.lit (.bool false)], args := [d1, d2, d3] }
  | _ => none }
def LargeStaysWrongFalsely : Prop := largeStaysRow.holds Tryz.pinned (OpenSpec.ofChange largeStaysWrong)

/- THE SECOND FORM. 'bulk': how many values and letters a reading holds, each counted each time it is reached (what is shared counts as often as it is met; a slice's spare places count too). A statement '..UptoSaid' is the law's where the arguments, and the package variables that the reading takes, are together of bulk at most 1048576: NARROWER than '..Said'. Prove '..Said' where nothing that the law and all that it calls make is longer than what came in: it says more and counts as full. Else prove '..UptoSaid'. A law counts once. -/
mutual
def uptoBulk {H : Type} : DataW H → Nat
  | .lit (.string bytes) => bytes.length + 1
  | .lit _ => 1
  | .nil => 1
  | .ptr d => uptoBulk d + 1
  | .slice elems spare => uptoBulkAll elems + uptoBulkAll spare + 1
  | .agg parts => uptoBulkAll parts + 1
  | .iface _ d => uptoBulk d + 1
  | .map entries => uptoBulkEntries entries + 1
  | .held _ => 1
def uptoBulkAll {H : Type} : List (DataW H) → Nat
  | [] => 0
  | d :: r => uptoBulk d + uptoBulkAll r
def uptoBulkEntries {H : Type} : List (Lit × DataW H) → Nat
  | [] => 0
  | x :: r => uptoBulkEntry x + uptoBulkEntries r
def uptoBulkEntry {H : Type} : Lit × DataW H → Nat
  | (.string bytes, d) => bytes.length + uptoBulk d + 1
  | (_, d) => uptoBulk d + 1
 end
def uptoSmall : (H : Type) → List (DataW H) → Bool := fun _ ds => decide (uptoBulkAll ds ≤ 1048576)
def OpenSpec.upto (s : _root_.Go.ChangeSpec) : _root_.Go.OpenSpec := { _root_.Go.OpenSpec.ofChange s with cond := some uptoSmall }

/-- 'nacrelaw19.LargeDoes', WHERE WHAT IT READS IS OF BULK AT MOST 1048576: true; the input reads as it did. -/
def largeDoesUptoRow : OpenClaim := { program := "ytgifnhcknodekaagreat", sum := "fb9a28d8e2c13aced51992659e35b165e859993ee348e618c9a2ca8c8a34fdc1", func := "nacre/nacrelaw19.LargeDoes", spec := "largeDoes", unfollowed := true, recurses := true, apart := false, narrowed := true }
def LargeDoesUptoSaid : Prop := largeDoesUptoRow.holds Tryz.pinned (OpenSpec.upto largeDoesSpec)

/-- 'nacrelaw19.LargeKeeps', WHERE WHAT IT READS IS OF BULK AT MOST 1048576: true; the input reads as it did. -/
def largeKeepsUptoRow : OpenClaim := { program := "ytgifnhcknodekaagreat", sum := "fb9a28d8e2c13aced51992659e35b165e859993ee348e618c9a2ca8c8a34fdc1", func := "nacre/nacrelaw19.LargeKeeps", spec := "largeKeeps", unfollowed := true, recurses := true, apart := false, narrowed := true }
def LargeKeepsUptoSaid : Prop := largeKeepsUptoRow.holds Tryz.pinned (OpenSpec.upto largeKeepsSpec)

/-- 'nacrelaw19.LargeStays', WHERE WHAT IT READS IS OF BULK AT MOST 1048576: true; the input reads as it did. -/
def largeStaysUptoRow : OpenClaim := { program := "ytgifnhcknodekaagreat", sum := "fb9a28d8e2c13aced51992659e35b165e859993ee348e618c9a2ca8c8a34fdc1", func := "nacre/nacrelaw19.LargeStays", spec := "largeStays", unfollowed := true, recurses := true, apart := false, narrowed := true }
def LargeStaysUptoSaid : Prop := largeStaysUptoRow.holds Tryz.pinned (OpenSpec.upto largeStaysSpec)

end Rows
end Go.Proofs.YtgifnhcknodekaaGreat
