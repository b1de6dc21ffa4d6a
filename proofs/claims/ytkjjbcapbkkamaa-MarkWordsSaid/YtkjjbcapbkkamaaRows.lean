/-
  No cell of these rows narrows 'for every input' (looked for: loops, veiled, ifaces, maps, wideKeys, modest, calm, conditions, laid).
  DERIVED. THE GIVEN ROWS OF THIS SEAT. 3 by the template 'for every input the law returns true; each argument reads behind the call as it read before'; 0 by the template 'total and deterministic' (their statements: YtkjjbcapbkkamaaTotals.lean).
  GIVEN WITH THE SEED: the statements are not yours to turn. If you find one false, say at which input.
  Laid BY PROGRAM, IN A SANDBOX (cutbox-rows.mjs): the forced cells as the released guide's own fill.sh prints them over the translation 6abdcb47fea023b3… (all of the seat's roots in one cut). By AI agents, Wed Nov 11 2026. No macro, syntax, notation, axiom, sorry.
-/
import Derived.Test.YtkjjbcapbkkamaaChecked
import GoSem.Claim
import GoSem.ClaimJoined
import GoSem.ClaimMapViews
import Derived.JoinedTies
import Derived.KernelRfl
namespace Go.Proofs.Ytkjjbcapbkkamaa
/- THE CELL 'sum', in the pinned program and in every row, IS THE sha256 OF THE DUMP (.gsa) THAT YtkjjbcapbkkamaaProg.lean LOADS. Nothing in Lean hashes anything: it is a label: what it is worth is what the hold of that sum in a sandbox is worth. -/
noncomputable def Try.pinned : Pinned := { name := "ytkjjbcapbkkamaa", sum := "6abdcb47fea023b3cb902f763a69c41b7a03ef7b4e0b45d5715c824070bd88c6", checked := Try.checked }
namespace Rows
def none {H : Type} : Left H := { results := [], args := [] }

/-- 'nacrelaw03.MarkWords': WHATEVER THE INPUT: true; the input reads as it did. -/
def markWordsSpec : ChangeSpec := { name := "markWords", fn := fun _ => fun
  | [d1, d2, d3] => { results := [.lit (.bool true)], args := [d1, d2, d3] }
  | _ => none }
def markWordsRow : OpenClaim := { program := "ytkjjbcapbkkamaa", sum := "6abdcb47fea023b3cb902f763a69c41b7a03ef7b4e0b45d5715c824070bd88c6", func := "nacre/nacrelaw03.MarkWords", spec := "markWords", apart := false }
def MarkWordsSaid : Prop := markWordsRow.holds Try.pinned (OpenSpec.ofChange markWordsSpec)

/-- ITS FALSE NEIGHBOUR: 'it returns false'. Refute it at one input. -/
def markWordsWrong : ChangeSpec := { name := "markWords", fn := fun _ => fun
  | [d1, d2, d3] => { results := [.lit (.bool false)], args := [d1, d2, d3] }
  | _ => none }
def MarkWordsWrongFalsely : Prop := markWordsRow.holds Try.pinned (OpenSpec.ofChange markWordsWrong)

/-- 'nacrelaw03.MarkNotes': WHATEVER THE INPUT: true; the input reads as it did. -/
def markNotesSpec : ChangeSpec := { name := "markNotes", fn := fun _ => fun
  | [d1, d2, d3] => { results := [.lit (.bool true)], args := [d1, d2, d3] }
  | _ => none }
def markNotesRow : OpenClaim := { program := "ytkjjbcapbkkamaa", sum := "6abdcb47fea023b3cb902f763a69c41b7a03ef7b4e0b45d5715c824070bd88c6", func := "nacre/nacrelaw03.MarkNotes", spec := "markNotes", apart := false }
def MarkNotesSaid : Prop := markNotesRow.holds Try.pinned (OpenSpec.ofChange markNotesSpec)

/-- ITS FALSE NEIGHBOUR: 'it returns false'. Refute it at one input. -/
def markNotesWrong : ChangeSpec := { name := "markNotes", fn := fun _ => fun
  | [d1, d2, d3] => { results := [.lit (.bool false)], args := [d1, d2, d3] }
  | _ => none }
def MarkNotesWrongFalsely : Prop := markNotesRow.holds Try.pinned (OpenSpec.ofChange markNotesWrong)

/-- 'nacrelaw03.MarkBack': WHATEVER THE INPUT: true; the input reads as it did. -/
def markBackSpec : ChangeSpec := { name := "markBack", fn := fun _ => fun
  | [d1, d2, d3] => { results := [.lit (.bool true)], args := [d1, d2, d3] }
  | _ => none }
def markBackRow : OpenClaim := { program := "ytkjjbcapbkkamaa", sum := "6abdcb47fea023b3cb902f763a69c41b7a03ef7b4e0b45d5715c824070bd88c6", func := "nacre/nacrelaw03.MarkBack", spec := "markBack", apart := false }
def MarkBackSaid : Prop := markBackRow.holds Try.pinned (OpenSpec.ofChange markBackSpec)

/-- ITS FALSE NEIGHBOUR: 'it returns false'. Refute it at one input. -/
def markBackWrong : ChangeSpec := { name := "markBack", fn := fun _ => fun
  | [d1, d2, d3] => { results := [.lit (.bool false)], args := [d1, d2, d3] }
  | _ => none }
def MarkBackWrongFalsely : Prop := markBackRow.holds Try.pinned (OpenSpec.ofChange markBackWrong)

/- THE SECOND FORM. 'bulk': how many values and letters a reading holds, each counted each time it is reached (what is shared counts as often as it is met; a slice's spare places count too). A statement '..UptoSaid' is the law's where the arguments, and the package variables that the reading takes, are together of bulk at most 1048576: NARROWER than '..Said'. Prove '..Said' where nothing that the law and all that it calls make is longer than what came in: it says more and counts as full. Else prove '..UptoSaid'. A law counts once. -/
mutual
def uptoBulk {H : Type} : DataW H → Nat
  | .lit (.string bytes) => bytes.length + 1
  | .lit _ => 1
  | .nil => 1
  | .ptr d => uptoBulk d + 1
  | .slice elems spare => uptoBulkAll elems + uptoBulkAll spare + 1
  | .agg parts => uptoBulkAll parts + 1
  | .iface _ d => uptoBulk d + 1
  | .map entries => uptoBulkEntries entries + 1
  | .held _ => 1
def uptoBulkAll {H : Type} : List (DataW H) → Nat
  | [] => 0
  | d :: r => uptoBulk d + uptoBulkAll r
def uptoBulkEntries {H : Type} : List (Lit × DataW H) → Nat
  | [] => 0
  | x :: r => uptoBulkEntry x + uptoBulkEntries r
def uptoBulkEntry {H : Type} : Lit × DataW H → Nat
  | (.string bytes, d) => bytes.length + uptoBulk d + 1
  | (_, d) => uptoBulk d + 1
 end
def uptoSmall : (H : Type) → List (DataW H) → Bool := fun _ ds => decide (uptoBulkAll ds ≤ 1048576)
def OpenSpec.upto (s : _root_.Go.ChangeSpec) : _root_.Go.OpenSpec := { _root_.Go.OpenSpec.ofChange s with cond := some uptoSmall }

/-- 'nacrelaw03.MarkWords', WHERE WHAT IT READS IS OF BULK AT MOST 1048576: true; the input reads as it did. -/
def markWordsUptoRow : OpenClaim := { program := "ytkjjbcapbkkamaa", sum := "6abdcb47fea023b3cb902f763a69c41b7a03ef7b4e0b45d5715c824070bd88c6", func := "nacre/nacrelaw03.MarkWords", spec := "markWords", apart := false, narrowed := true }
def MarkWordsUptoSaid : Prop := markWordsUptoRow.holds Try.pinned (OpenSpec.upto markWordsSpec)

/-- 'nacrelaw03.MarkNotes', WHERE WHAT IT READS IS OF BULK AT MOST 1048576: true; the input reads as it did. -/
def markNotesUptoRow : OpenClaim := { program := "ytkjjbcapbkkamaa", sum := "6abdcb47fea023b3cb902f763a69c41b7a03ef7b4e0b45d5715c824070bd88c6", func := "nacre/nacrelaw03.MarkNotes", spec := "markNotes", apart := false, narrowed := true }
def MarkNotesUptoSaid : Prop := markNotesUptoRow.holds Try.pinned (OpenSpec.upto markNotesSpec)

/-- 'nacrelaw03.MarkBack', WHERE WHAT IT READS IS OF BULK AT MOST 1048576: true; the input reads as it did. -/
def markBackUptoRow : OpenClaim := { program := "ytkjjbcapbkkamaa", sum := "6abdcb47fea023b3cb902f763a69c41b7a03ef7b4e0b45d5715c824070bd88c6", func := "nacre/nacrelaw03.MarkBack", spec := "markBack", apart := false, narrowed := true }
def MarkBackUptoSaid : Prop := markBackUptoRow.holds Try.pinned (OpenSpec.upto markBackSpec)

end Rows
end Go.Proofs.Ytkjjbcapbkkamaa
