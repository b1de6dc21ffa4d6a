/-
  No cell of these rows narrows 'for every input' (looked for: loops, veiled, ifaces, maps, wideKeys, modest, calm, conditions, laid).
  DERIVED. THE GIVEN ROWS OF THIS SEAT. 4 by the template 'for every input the law returns true; each argument reads behind the call as it read before'; 0 by the template 'total and deterministic' (their statements: YtjiedkfmbgfolaaTotals.lean).
  GIVEN WITH THE SEED: the statements are not yours to turn. If you find one false, say at which input.
  Laid BY PROGRAM, IN A SANDBOX (cutbox-rows.mjs): the forced cells as the released guide's own fill.sh prints them over the translation cd7352f74afdb086… (all of the seat's roots in one cut). By AI agents, Wed Nov 11 2026. No macro, syntax, notation, axiom, sorry.
-/
import Derived.Test.YtjiedkfmbgfolaaChecked
import GoSem.Claim
import GoSem.ClaimJoined
import GoSem.ClaimMapViews
import Derived.JoinedTies
import Derived.KernelRfl
namespace Go.Proofs.Ytjiedkfmbgfolaa
/- THE CELL 'sum', in the pinned program and in every row, IS THE sha256 OF THE DUMP (.gsa) THAT YtjiedkfmbgfolaaProg.lean LOADS. Nothing in Lean hashes anything: it is a label: what it is worth is what the hold of that sum in a sandbox is worth. -/
noncomputable def Try.pinned : Pinned := { name := "ytjiedkfmbgfolaa", sum := "cd7352f74afdb086f3f16e46c3a15ff047070abae7270526f239a2c5f57bea8d", checked := Try.checked }
namespace Rows
def none {H : Type} : Left H := { results := [], args := [] }

/-- 'nacrelaw01.HalfJoins': WHATEVER THE INPUT: true; the input reads as it did. -/
def halfJoinsSpec : ChangeSpec := { name := "halfJoins", fn := fun _ => fun
  | [d1, d2, d3] => { results := [.lit (.bool true)], args := [d1, d2, d3] }
  | _ => none }
def halfJoinsRow : OpenClaim := { program := "ytjiedkfmbgfolaa", sum := "cd7352f74afdb086f3f16e46c3a15ff047070abae7270526f239a2c5f57bea8d", func := "nacre/nacrelaw01.HalfJoins", spec := "halfJoins", apart := false }
def HalfJoinsSaid : Prop := halfJoinsRow.holds Try.pinned (OpenSpec.ofChange halfJoinsSpec)

/-- ITS FALSE NEIGHBOUR: 'it returns false'. Refute it at one input. -/
def halfJoinsWrong : ChangeSpec := { name := "halfJoins", fn := fun _ => fun
  | [d1, d2, d3] => { results := [.lit (.bool false)], args := [d1, d2, d3] }
  | _ => none }
def HalfJoinsWrongFalsely : Prop := halfJoinsRow.holds Try.pinned (OpenSpec.ofChange halfJoinsWrong)

/-- 'nacrelaw01.HalfFields': WHATEVER THE INPUT: true; the input reads as it did. -/
def halfFieldsSpec : ChangeSpec := { name := "halfFields", fn := fun _ => fun
  | [d1, d2] => { results := [.lit (.bool true)], args := [d1, d2] }
  | _ => none }
def halfFieldsRow : OpenClaim := { program := "ytjiedkfmbgfolaa", sum := "cd7352f74afdb086f3f16e46c3a15ff047070abae7270526f239a2c5f57bea8d", func := "nacre/nacrelaw01.HalfFields", spec := "halfFields", apart := false }
def HalfFieldsSaid : Prop := halfFieldsRow.holds Try.pinned (OpenSpec.ofChange halfFieldsSpec)

/-- ITS FALSE NEIGHBOUR: 'it returns false'. Refute it at one input. -/
def halfFieldsWrong : ChangeSpec := { name := "halfFields", fn := fun _ => fun
  | [d1, d2] => { results := [.lit (.bool false)], args := [d1, d2] }
  | _ => none }
def HalfFieldsWrongFalsely : Prop := halfFieldsRow.holds Try.pinned (OpenSpec.ofChange halfFieldsWrong)

/-- 'nacrelaw01.HalfBack': WHATEVER THE INPUT: true; the input reads as it did. -/
def halfBackSpec : ChangeSpec := { name := "halfBack", fn := fun _ => fun
  | [d1, d2, d3] => { results := [.lit (.bool true)], args := [d1, d2, d3] }
  | _ => none }
def halfBackRow : OpenClaim := { program := "ytjiedkfmbgfolaa", sum := "cd7352f74afdb086f3f16e46c3a15ff047070abae7270526f239a2c5f57bea8d", func := "nacre/nacrelaw01.HalfBack", spec := "halfBack", apart := false }
def HalfBackSaid : Prop := halfBackRow.holds Try.pinned (OpenSpec.ofChange halfBackSpec)

/-- ITS FALSE NEIGHBOUR: 'it returns false'. Refute it at one input. -/
def halfBackWrong : ChangeSpec := { name := "halfBack", fn := fun _ => fun
  | [d1, d2, d3] => { results := [.lit (.bool false)], args := [d1, d2, d3] }
  | _ => none }
def HalfBackWrongFalsely : Prop := halfBackRow.holds Try.pinned (OpenSpec.ofChange halfBackWrong)

/-- 'nacrelaw01.HalfBits': WHATEVER THE INPUT: true; the input reads as it did. -/
def halfBitsSpec : ChangeSpec := { name := "halfBits", fn := fun _ => fun
  | [d1, d2] => { results := [.lit (.bool true)], args := [d1, d2] }
  | _ => none }
def halfBitsRow : OpenClaim := { program := "ytjiedkfmbgfolaa", sum := "cd7352f74afdb086f3f16e46c3a15ff047070abae7270526f239a2c5f57bea8d", func := "nacre/nacrelaw01.HalfBits", spec := "halfBits", apart := false }
def HalfBitsSaid : Prop := halfBitsRow.holds Try.pinned (OpenSpec.ofChange halfBitsSpec)

/-- ITS FALSE NEIGHBOUR: 'it returns false'. Refute it at one input. -/
def halfBitsWrong : ChangeSpec := { name := "halfBits", fn := fun _ => fun
  | [d1, d2] => { results := [.lit (.bool false)], args := [d1, d2] }
  | _ => none }
def HalfBitsWrongFalsely : Prop := halfBitsRow.holds Try.pinned (OpenSpec.ofChange halfBitsWrong)

/- THE SECOND FORM. 'bulk': how many values and letters a reading holds, each counted each time it is reached (what is shared counts as often as it is met; a slice's spare places count too). A statement '..UptoSaid' is the law's where the arguments, and the package variables that the reading takes, are together of bulk at most 1048576: NARROWER than '..Said'. Prove '..Said' where nothing that the law and all that it calls make is longer than what came in: it says more and counts as full. Else prove '..UptoSaid'. A law counts once. -/
mutual
def uptoBulk {H : Type} : DataW H → Nat
  | .lit (.string bytes) => bytes.length + 1
  | .lit _ => 1
  | .nil => 1
  | .ptr d => uptoBulk d + 1
  | .slice elems spare => uptoBulkAll elems + uptoBulkAll spare + 1
  | .agg parts => uptoBulkAll parts + 1
  | .iface _ d => uptoBulk d + 1
  | .map entries => uptoBulkEntries entries + 1
  | .held _ => 1
def uptoBulkAll {H : Type} : List (DataW H) → Nat
  | [] => 0
  | d :: r => uptoBulk d + uptoBulkAll r
def uptoBulkEntries {H : Type} : List (Lit × DataW H) → Nat
  | [] => 0
  | x :: r => uptoBulkEntry x + uptoBulkEntries r
def uptoBulkEntry {H : Type} : Lit × DataW H → Nat
  | (.string bytes, d) => bytes.length + uptoBulk d + 1
  | (_, d) => uptoBulk d + 1
 end
def uptoSmall : (H : Type) → List (DataW H) → Bool := fun _ ds => decide (uptoBulkAll ds ≤ 1048576)
def OpenSpec.upto (s : _root_.Go.ChangeSpec) : _root_.Go.OpenSpec := { _root_.Go.OpenSpec.ofChange s with cond := some uptoSmall }

/-- 'nacrelaw01.HalfJoins', WHERE WHAT IT READS IS OF BULK AT MOST 1048576: true; the input reads as it did. -/
def halfJoinsUptoRow : OpenClaim := { program := "ytjiedkfmbgfolaa", sum := "cd7352f74afdb086f3f16e46c3a15ff047070abae7270526f239a2c5f57bea8d", func := "nacre/nacrelaw01.HalfJoins", spec := "halfJoins", apart := false, narrowed := true }
def HalfJoinsUptoSaid : Prop := halfJoinsUptoRow.holds Try.pinned (OpenSpec.upto halfJoinsSpec)

/-- 'nacrelaw01.HalfFields', WHERE WHAT IT READS IS OF BULK AT MOST 1048576: true; the input reads as it did. -/
def halfFieldsUptoRow : OpenClaim := { program := "ytjiedkfmbgfolaa", sum := "cd7352f74afdb086f3f16e46c3a15ff047070abae7270526f239a2c5f57bea8d", func := "nacre/nacrelaw01.HalfFields", spec := "halfFields", apart := false, narrowed := true }
def HalfFieldsUptoSaid : Prop := halfFieldsUptoRow.holds Try.pinned (OpenSpec.upto halfFieldsSpec)

/-- 'nacrelaw01.HalfBack', WHERE WHAT IT READS IS OF BULK AT MOST 1048576: true; the input reads as it did. -/
def halfBackUptoRow : OpenClaim := { program := "ytjiedkfmbgfolaa", sum := "cd7352f74afdb086f3f16e46c3a15ff047070abae7270526f239a2c5f57bea8d", func := "nacre/nacrelaw01.HalfBack", spec := "halfBack", apart := false, narrowed := true }
def HalfBackUptoSaid : Prop := halfBackUptoRow.holds Try.pinned (OpenSpec.upto halfBackSpec)

/-- 'nacrelaw01.HalfBits', WHERE WHAT IT READS IS OF BULK AT MOST 1048576: true; the input reads as it did. -/
def halfBitsUptoRow : OpenClaim := { program := "ytjiedkfmbgfolaa", sum := "cd7352f74afdb086f3f16e46c3a15ff047070abae7270526f239a2c5f57bea8d", func := "nacre/nacrelaw01.HalfBits", spec := "halfBits", apart := false, narrowed := true }
def HalfBitsUptoSaid : Prop := halfBitsUptoRow.holds Try.pinned (OpenSpec.upto halfBitsSpec)

end Rows
end Go.Proofs.Ytjiedkfmbgfolaa
