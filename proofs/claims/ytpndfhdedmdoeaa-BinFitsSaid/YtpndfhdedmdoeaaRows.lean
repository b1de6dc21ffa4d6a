/-
  No cell of these rows narrows 'for every input' (looked for: loops, veiled, ifaces, maps, wideKeys, modest, calm, conditions, laid).
  DERIVED. THE GIVEN ROWS OF THIS SEAT. 3 by the template 'for every input the law returns true; each argument reads behind the call as it read before'; 0 by the template 'total and deterministic' (their statements: YtpndfhdedmdoeaaTotals.lean).
  GIVEN WITH THE SEED: the statements are not yours to turn. If you find one false, say at which input.
  Laid BY PROGRAM, IN A SANDBOX (cutbox-rows.mjs): the forced cells as the released guide's own fill.sh prints them over the translation a6c28e3bfea203bf… (all of the seat's roots in one cut). By AI agents, Wed Nov 11 2026. No macro, syntax, notation, axiom, sorry.
-/
import Derived.Test.YtpndfhdedmdoeaaChecked
import GoSem.Claim
import GoSem.ClaimJoined
import GoSem.ClaimMapViews
import Derived.JoinedTies
import Derived.KernelRfl
namespace Go.Proofs.Ytpndfhdedmdoeaa
/- THE CELL 'sum', in the pinned program and in every row, IS THE sha256 OF THE DUMP (.gsa) THAT YtpndfhdedmdoeaaProg.lean LOADS. Nothing in Lean hashes anything: it is a label: what it is worth is what the hold of that sum in a sandbox is worth. -/
noncomputable def Try.pinned : Pinned := { name := "ytpndfhdedmdoeaa", sum := "a6c28e3bfea203bf1dc669bf86f5ec811689c703c47b60a1994c25e15c72d4f6", checked := Try.checked }
namespace Rows
def none {H : Type} : Left H := { results := [], args := [] }

/-- 'nacrelaw14.BinDoes': WHATEVER THE INPUT: true; the input reads as it did. -/
def binDoesSpec : ChangeSpec := { name := "binDoes", fn := fun _ => fun
  | [d1, d2, d3] => { results := [.lit (.bool true)], args := [d1, d2, d3] }
  | _ => none }
def binDoesRow : OpenClaim := { program := "ytpndfhdedmdoeaa", sum := "a6c28e3bfea203bf1dc669bf86f5ec811689c703c47b60a1994c25e15c72d4f6", func := "nacre/nacrelaw14.BinDoes", spec := "binDoes", unfollowed := true, recurses := true, apart := false }
def BinDoesSaid : Prop := binDoesRow.holds Try.pinned (OpenSpec.ofChange binDoesSpec)

/-- ITS FALSE NEIGHBOUR: 'it returns false'. Refute it at one input. -/
def binDoesWrong : ChangeSpec := { name := "binDoes", fn := fun _ => fun
  | [d1, d2, d3] => { results := [.lit (.bool false)], args := [d1, d2, d3] }
  | _ => none }
def BinDoesWrongFalsely : Prop := binDoesRow.holds Try.pinned (OpenSpec.ofChange binDoesWrong)

/-- 'nacrelaw14.BinFinds': WHATEVER THE INPUT: true; the input reads as it did. -/
def binFindsSpec : ChangeSpec := { name := "binFinds", fn := fun _ => fun
  | [d1, d2, d3] => { results := [.lit (.bool true)], args := [d1, d2, d3] }
  | _ => none }
def binFindsRow : OpenClaim := { program := "ytpndfhdedmdoeaa", sum := "a6c28e3bfea203bf1dc669bf86f5ec811689c703c47b60a1994c25e15c72d4f6", func := "nacre/nacrelaw14.BinFinds", spec := "binFinds", unfollowed := true, recurses := true, apart := false }
def BinFindsSaid : Prop := binFindsRow.holds Try.pinned (OpenSpec.ofChange binFindsSpec)

/-- ITS FALSE NEIGHBOUR: 'it returns false'. Refute it at one input. -/
def binFindsWrong : ChangeSpec := { name := "binFinds", fn := fun _ => fun
  | [d1, d2, d3] => { results := [.lit (.bool false)], args := [d1, d2, d3] }
  | _ => none }
def BinFindsWrongFalsely : Prop := binFindsRow.holds Try.pinned (OpenSpec.ofChange binFindsWrong)

/-- 'nacrelaw14.BinFits': WHATEVER THE INPUT: true; the input reads as it did. -/
def binFitsSpec : ChangeSpec := { name := "binFits", fn := fun _ => fun
  | [d1, d2, d3] => { results := [.lit (.bool true)], args := [d1, d2, d3] }
  | _ => none }
def binFitsRow : OpenClaim := { program := "ytpndfhdedmdoeaa", sum := "a6c28e3bfea203bf1dc669bf86f5ec811689c703c47b60a1994c25e15c72d4f6", func := "nacre/nacrelaw14.BinFits", spec := "binFits", unfollowed := true, recurses := true, apart := false }
def BinFitsSaid : Prop := binFitsRow.holds Try.pinned (OpenSpec.ofChange binFitsSpec)

/-- ITS FALSE NEIGHBOUR: 'it returns false'. Refute it at one input. -/
def binFitsWrong : ChangeSpec := { name := "binFits", fn := fun _ => fun
  | [d1, d2, d3] => { results := [.lit (.bool false)], args := [d1, d2, d3] }
  | _ => none }
def BinFitsWrongFalsely : Prop := binFitsRow.holds Try.pinned (OpenSpec.ofChange binFitsWrong)

/- THE SECOND FORM. 'bulk': how many values and letters a reading holds, each counted each time it is reached (what is shared counts as often as it is met; a slice's spare places count too). A statement '..UptoSaid' is the law's where the arguments, and the package variables that the reading takes, are together of bulk at most 1048576: NARROWER than '..Said'. Prove '..Said' where nothing that the law and all that it calls make is longer than what came in: it says more and counts as full. Else prove '..UptoSaid'. A law counts once. -/
mutual
def uptoBulk {H : Type} : DataW H → Nat
  | .lit (.string bytes) => bytes.length + 1
  | .lit _ => 1
  | .nil => 1
  | .ptr d => uptoBulk d + 1
  | .slice elems spare => uptoBulkAll elems + uptoBulkAll spare + 1
  | .agg parts => uptoBulkAll parts + 1
  | .iface _ d => uptoBulk d + 1
  | .map entries => uptoBulkEntries entries + 1
  | .held _ => 1
def uptoBulkAll {H : Type} : List (DataW H) → Nat
  | [] => 0
  | d :: r => uptoBulk d + uptoBulkAll r
def uptoBulkEntries {H : Type} : List (Lit × DataW H) → Nat
  | [] => 0
  | x :: r => uptoBulkEntry x + uptoBulkEntries r
def uptoBulkEntry {H : Type} : Lit × DataW H → Nat
  | (.string bytes, d) => bytes.length + uptoBulk d + 1
  | (_, d) => uptoBulk d + 1
 end
def uptoSmall : (H : Type) → List (DataW H) → Bool := fun _ ds => decide (uptoBulkAll ds ≤ 1048576)
def OpenSpec.upto (s : _root_.Go.ChangeSpec) : _root_.Go.OpenSpec := { _root_.Go.OpenSpec.ofChange s with cond := some uptoSmall }

/-- 'nacrelaw14.BinDoes', WHERE WHAT IT READS IS OF BULK AT MOST 1048576: true; the input reads as it did. -/
def binDoesUptoRow : OpenClaim := { program := "ytpndfhdedmdoeaa", sum := "a6c28e3bfea203bf1dc669bf86f5ec811689c703c47b60a1994c25e15c72d4f6", func := "nacre/nacrelaw14.BinDoes", spec := "binDoes", unfollowed := true, recurses := true, apart := false, narrowed := true }
def BinDoesUptoSaid : Prop := binDoesUptoRow.holds Try.pinned (OpenSpec.upto binDoesSpec)

/-- 'nacrelaw14.BinFinds', WHERE WHAT IT READS IS OF BULK AT MOST 1048576: true; the input reads as it did. -/
def binFindsUptoRow : OpenClaim := { program := "ytpndfhdedmdoeaa", sum := "a6c28e3bfea203bf1dc669bf86f5ec811689c703c47b60a1994c25e15c72d4f6", func := "nacre/nacrelaw14.BinFinds", spec := "binFinds", unfollowed := true, recurses := true, apart := false, narrowed := true }
def BinFindsUptoSaid : Prop := binFindsUptoRow.holds Try.pinned (OpenSpec.upto binFindsSpec)

/-- 'nacrelaw14.BinFits', WHERE WHAT IT READS IS OF BULK AT MOST 1048576: true; the input reads as it did. -/
def binFitsUptoRow : OpenClaim := { program := "ytpndfhdedmdoeaa", sum := "a6c28e3bfea203bf1dc669bf86f5ec811689c703c47b60a1994c25e15c72d4f6", func := "nacre/nacrelaw14.BinFits", spec := "binFits", unfollowed := true, recurses := true, apart := false, narrowed := true }
def BinFitsUptoSaid : Prop := binFitsUptoRow.holds Try.pinned (OpenSpec.upto binFitsSpec)

end Rows
end Go.Proofs.Ytpndfhdedmdoeaa
