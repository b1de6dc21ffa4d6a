/-
  No cell of these rows narrows 'for every input' (looked for: loops, veiled, ifaces, maps, wideKeys, modest, calm, conditions, laid).
  DERIVED. THE GIVEN ROWS OF THIS SEAT. 3 by the template 'for every input the law returns true; each argument reads behind the call as it read before'; 0 by the template 'total and deterministic' (their statements: YthiobfghanlelaaTotals.lean).
  GIVEN WITH THE SEED: the statements are not yours to turn. If you find one false, say at which input.
  Laid BY PROGRAM, IN A SANDBOX (cutbox-rows.mjs): the forced cells as the released guide's own fill.sh prints them over the translation c56fb8bd3ab260d7… (all of the seat's roots in one cut). By AI agents, Wed Nov 11 2026. No macro, syntax, notation, axiom, sorry.
-/
import Derived.Test.YthiobfghanlelaaChecked
import GoSem.Claim
import GoSem.ClaimJoined
import GoSem.ClaimMapViews
import Derived.JoinedTies
import Derived.KernelRfl
namespace Go.Proofs.Ythiobfghanlelaa
/- THE CELL 'sum', in the pinned program and in every row, IS THE sha256 OF THE DUMP (.gsa) THAT YthiobfghanlelaaProg.lean LOADS. Nothing in Lean hashes anything: it is a label: what it is worth is what the hold of that sum in a sandbox is worth. -/
noncomputable def Try.pinned : Pinned := { name := "ythiobfghanlelaa", sum := "c56fb8bd3ab260d746171f9719221f47af8cb4bbf5b2eb5a7a222124de54fbed", checked := Try.checked }
namespace Rows
def none {H : Type} : Left H := { results := [], args := [] }

/-- 'nacrelaw13.LinkDoes': WHATEVER THE INPUT: true; the input reads as it did. -/
def linkDoesSpec : ChangeSpec := { name := "linkDoes", fn := fun _ => fun
  | [d1, d2, d3] => { results := [.lit (.bool true)], args := [d1, d2, d3] }
  | _ => none }
def linkDoesRow : OpenClaim := { program := "ythiobfghanlelaa", sum := "c56fb8bd3ab260d746171f9719221f47af8cb4bbf5b2eb5a7a222124de54fbed", func := "nacre/nacrelaw13.LinkDoes", spec := "linkDoes", unfollowed := true, recurses := true, apart := false }
def LinkDoesSaid : Prop := linkDoesRow.holds Try.pinned (OpenSpec.ofChange linkDoesSpec)

/-- ITS FALSE NEIGHBOUR: 'it returns false'. Refute it at one input. -/
def linkDoesWrong : ChangeSpec := { name := "linkDoes", fn := fun _ => fun
  | [d1, d2, d3] => { results := [.lit (.bool false)], args := [d1, d2, d3] }
  | _ => none }
def LinkDoesWrongFalsely : Prop := linkDoesRow.holds Try.pinned (OpenSpec.ofChange linkDoesWrong)

/-- 'nacrelaw13.LinkPulls': WHATEVER THE INPUT: true; the input reads as it did. -/
def linkPullsSpec : ChangeSpec := { name := "linkPulls", fn := fun _ => fun
  | [d1, d2, d3] => { results := [.lit (.bool true)], args := [d1, d2, d3] }
  | _ => none }
def linkPullsRow : OpenClaim := { program := "ythiobfghanlelaa", sum := "c56fb8bd3ab260d746171f9719221f47af8cb4bbf5b2eb5a7a222124de54fbed", func := "nacre/nacrelaw13.LinkPulls", spec := "linkPulls", unfollowed := true, recurses := true, apart := false }
def LinkPullsSaid : Prop := linkPullsRow.holds Try.pinned (OpenSpec.ofChange linkPullsSpec)

/-- ITS FALSE NEIGHBOUR: 'it returns false'. Refute it at one input. -/
def linkPullsWrong : ChangeSpec := { name := "linkPulls", fn := fun _ => fun
  | [d1, d2, d3] => { results := [.lit (.bool false)], args := [d1, d2, d3] }
  | _ => none }
def LinkPullsWrongFalsely : Prop := linkPullsRow.holds Try.pinned (OpenSpec.ofChange linkPullsWrong)

/-- 'nacrelaw13.LinkWalks': WHATEVER THE INPUT: true; the input reads as it did. -/
def linkWalksSpec : ChangeSpec := { name := "linkWalks", fn := fun _ => fun
  | [d1, d2, d3] => { results := [.lit (.bool true)], args := [d1, d2, d3] }
  | _ => none }
def linkWalksRow : OpenClaim := { program := "ythiobfghanlelaa", sum := "c56fb8bd3ab260d746171f9719221f47af8cb4bbf5b2eb5a7a222124de54fbed", func := "nacre/nacrelaw13.LinkWalks", spec := "linkWalks", unfollowed := true, recurses := true, apart := false }
def LinkWalksSaid : Prop := linkWalksRow.holds Try.pinned (OpenSpec.ofChange linkWalksSpec)

/-- ITS FALSE NEIGHBOUR: 'it returns false'. Refute it at one input. -/
def linkWalksWrong : ChangeSpec := { name := "linkWalks", fn := fun _ => fun
  | [d1, d2, d3] => { results := [.lit (.bool false)], args := [d1, d2, d3] }
  | _ => none }
def LinkWalksWrongFalsely : Prop := linkWalksRow.holds Try.pinned (OpenSpec.ofChange linkWalksWrong)

/- THE SECOND FORM. 'bulk': how many values and letters a reading holds, each counted each time it is reached (what is shared counts as often as it is met; a slice's spare places count too). A statement '..UptoSaid' is the law's where the arguments, and the package variables that the reading takes, are together of bulk at most 1048576: NARROWER than '..Said'. Prove '..Said' where nothing that the law and all that it calls make is longer than what came in: it says more and counts as full. Else prove '..UptoSaid'. A law counts once. -/
mutual
def uptoBulk {H : Type} : DataW H → Nat
  | .lit (.string bytes) => bytes.length + 1
  | .lit _ => 1
  | .nil => 1
  | .ptr d => uptoBulk d + 1
  | .slice elems spare => uptoBulkAll elems + uptoBulkAll spare + 1
  | .agg parts => uptoBulkAll parts + 1
  | .iface _ d => uptoBulk d + 1
  | .map entries => uptoBulkEntries entries + 1
  | .held _ => 1
def uptoBulkAll {H : Type} : List (DataW H) → Nat
  | [] => 0
  | d :: r => uptoBulk d + uptoBulkAll r
def uptoBulkEntries {H : Type} : List (Lit × DataW H) → Nat
  | [] => 0
  | x :: r => uptoBulkEntry x + uptoBulkEntries r
def uptoBulkEntry {H : Type} : Lit × DataW H → Nat
  | (.string bytes, d) => bytes.length + uptoBulk d + 1
  | (_, d) => uptoBulk d + 1
 end
def uptoSmall : (H : Type) → List (DataW H) → Bool := fun _ ds => decide (uptoBulkAll ds ≤ 1048576)
def OpenSpec.upto (s : _root_.Go.ChangeSpec) : _root_.Go.OpenSpec := { _root_.Go.OpenSpec.ofChange s with cond := some uptoSmall }

/-- 'nacrelaw13.LinkDoes', WHERE WHAT IT READS IS OF BULK AT MOST 1048576: true; the input reads as it did. -/
def linkDoesUptoRow : OpenClaim := { program := "ythiobfghanlelaa", sum := "c56fb8bd3ab260d746171f9719221f47af8cb4bbf5b2eb5a7a222124de54fbed", func := "nacre/nacrelaw13.LinkDoes", spec := "linkDoes", unfollowed := true, recurses := true, apart := false, narrowed := true }
def LinkDoesUptoSaid : Prop := linkDoesUptoRow.holds Try.pinned (OpenSpec.upto linkDoesSpec)

/-- 'nacrelaw13.LinkPulls', WHERE WHAT IT READS IS OF BULK AT MOST 1048576: true; the input reads as it did. -/
def linkPullsUptoRow : OpenClaim := { program := "ythiobfghanlelaa", sum := "c56fb8bd3ab260d746171f9719221f47af8cb4bbf5b2eb5a7a222124de54fbed", func := "nacre/nacrelaw13.LinkPulls", spec := "linkPulls", unfollowed := true, recurses := true, apart := false, narrowed := true }
def LinkPullsUptoSaid : Prop := linkPullsUptoRow.holds Try.pinned (OpenSpec.upto linkPullsSpec)

/-- 'nacrelaw13.LinkWalks', WHERE WHAT IT READS IS OF BULK AT MOST 1048576: true; the input reads as it did. -/
def linkWalksUptoRow : OpenClaim := { program := "ythiobfghanlelaa", sum := "c56fb8bd3ab260d746171f9719221f47af8cb4bbf5b2eb5a7a222124de54fbed", func := "nacre/nacrelaw13.LinkWalks", spec := "linkWalks", unfollowed := true, recurses := true, apart := false, narrowed := true }
def LinkWalksUptoSaid : Prop := linkWalksUptoRow.holds Try.pinned (OpenSpec.upto linkWalksSpec)

end Rows
end Go.Proofs.Ythiobfghanlelaa
