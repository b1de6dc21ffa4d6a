/-
  No cell of these rows narrows 'for every input' (looked for: loops, veiled, ifaces, maps, wideKeys, modest, calm, conditions, laid).
  DERIVED. THE GIVEN ROWS OF THIS SEAT. 3 by the template 'for every input the law returns true; each argument reads behind the call as it read before'; 0 by the template 'total and deterministic' (their statements: YtceeilpobdgfdaaTotals.lean).
  GIVEN WITH THE SEED: the statements are not yours to turn. If you find one false, say at which input.
  Laid BY PROGRAM, IN A SANDBOX (cutbox-rows.mjs): the forced cells as the released guide's own fill.sh prints them over the translation dfcd801beb4cf34a… (all of the seat's roots in one cut). By AI agents, Wed Nov 11 2026. No macro, syntax, notation, axiom, sorry.
-/
import Derived.Test.YtceeilpobdgfdaaChecked
import GoSem.Claim
import GoSem.ClaimJoined
import GoSem.ClaimMapViews
import Derived.JoinedTies
import Derived.KernelRfl
namespace Go.Proofs.Ytceeilpobdgfdaa
/- THE CELL 'sum', in the pinned program and in every row, IS THE sha256 OF THE DUMP (.gsa) THAT YtceeilpobdgfdaaProg.lean LOADS. Nothing in Lean hashes anything: it is a label: what it is worth is what the hold of that sum in a sandbox is worth. -/
noncomputable def Try.pinned : Pinned := { name := "ytceeilpobdgfdaa", sum := "dfcd801beb4cf34ac2e968a5319a5393fc101bfb745a6027f94d6bbe240a16be", checked := Try.checked }
namespace Rows
def none {H : Type} : Left H := { results := [], args := [] }

/-- 'nacrelaw09.InfoPuts': WHATEVER THE INPUT: true; the input reads as it did. -/
def infoPutsSpec : ChangeSpec := { name := "infoPuts", fn := fun _ => fun
  | [d] => { results := [.lit (.bool true)], args := [d] }
  | _ => none }
def infoPutsRow : OpenClaim := { program := "ytceeilpobdgfdaa", sum := "dfcd801beb4cf34ac2e968a5319a5393fc101bfb745a6027f94d6bbe240a16be", func := "nacre/nacrelaw09.InfoPuts", spec := "infoPuts", apart := false }
def InfoPutsSaid : Prop := infoPutsRow.holds Try.pinned (OpenSpec.ofChange infoPutsSpec)

/-- ITS FALSE NEIGHBOUR: 'it returns false'. Refute it at one input. -/
def infoPutsWrong : ChangeSpec := { name := "infoPuts", fn := fun _ => fun
  | [d] => { results := [.lit (.bool false)], args := [d] }
  | _ => none }
def InfoPutsWrongFalsely : Prop := infoPutsRow.holds Try.pinned (OpenSpec.ofChange infoPutsWrong)

/-- 'nacrelaw09.InfoGets': WHATEVER THE INPUT: true; the input reads as it did. -/
def infoGetsSpec : ChangeSpec := { name := "infoGets", fn := fun _ => fun
  | [d] => { results := [.lit (.bool true)], args := [d] }
  | _ => none }
def infoGetsRow : OpenClaim := { program := "ytceeilpobdgfdaa", sum := "dfcd801beb4cf34ac2e968a5319a5393fc101bfb745a6027f94d6bbe240a16be", func := "nacre/nacrelaw09.InfoGets", spec := "infoGets", unfollowed := true, recurses := true, apart := false }
def InfoGetsSaid : Prop := infoGetsRow.holds Try.pinned (OpenSpec.ofChange infoGetsSpec)

/-- ITS FALSE NEIGHBOUR: 'it returns false'. Refute it at one input. -/
def infoGetsWrong : ChangeSpec := { name := "infoGets", fn := fun _ => fun
  | [d] => { results := [.lit (.bool false)], args := [d] }
  | _ => none }
def InfoGetsWrongFalsely : Prop := infoGetsRow.holds Try.pinned (OpenSpec.ofChange infoGetsWrong)

/-- 'nacrelaw09.InfoBack': WHATEVER THE INPUT: true; the input reads as it did. -/
def infoBackSpec : ChangeSpec := { name := "infoBack", fn := fun _ => fun
  | [d1, d2] => { results := [.lit (.bool true)], args := [d1, d2] }
  | _ => none }
def infoBackRow : OpenClaim := { program := "ytceeilpobdgfdaa", sum := "dfcd801beb4cf34ac2e968a5319a5393fc101bfb745a6027f94d6bbe240a16be", func := "nacre/nacrelaw09.InfoBack", spec := "infoBack", unfollowed := true, recurses := true, apart := false }
def InfoBackSaid : Prop := infoBackRow.holds Try.pinned (OpenSpec.ofChange infoBackSpec)

/-- ITS FALSE NEIGHBOUR: 'it returns false'. Refute it at one input. -/
def infoBackWrong : ChangeSpec := { name := "infoBack", fn := fun _ => fun
  | [d1, d2] => { results := [.lit (.bool false)], args := [d1, d2] }
  | _ => none }
def InfoBackWrongFalsely : Prop := infoBackRow.holds Try.pinned (OpenSpec.ofChange infoBackWrong)

/- THE SECOND FORM. 'bulk': how many values and letters a reading holds, each counted each time it is reached (what is shared counts as often as it is met; a slice's spare places count too). A statement '..UptoSaid' is the law's where the arguments, and the package variables that the reading takes, are together of bulk at most 1048576: NARROWER than '..Said'. Prove '..Said' where nothing that the law and all that it calls make is longer than what came in: it says more and counts as full. Else prove '..UptoSaid'. A law counts once. -/
mutual
def uptoBulk {H : Type} : DataW H → Nat
  | .lit (.string bytes) => bytes.length + 1
  | .lit _ => 1
  | .nil => 1
  | .ptr d => uptoBulk d + 1
  | .slice elems spare => uptoBulkAll elems + uptoBulkAll spare + 1
  | .agg parts => uptoBulkAll parts + 1
  | .iface _ d => uptoBulk d + 1
  | .map entries => uptoBulkEntries entries + 1
  | .held _ => 1
def uptoBulkAll {H : Type} : List (DataW H) → Nat
  | [] => 0
  | d :: r => uptoBulk d + uptoBulkAll r
def uptoBulkEntries {H : Type} : List (Lit × DataW H) → Nat
  | [] => 0
  | x :: r => uptoBulkEntry x + uptoBulkEntries r
def uptoBulkEntry {H : Type} : Lit × DataW H → Nat
  | (.string bytes, d) => bytes.length + uptoBulk d + 1
  | (_, d) => uptoBulk d + 1
 end
def uptoSmall : (H : Type) → List (DataW H) → Bool := fun _ ds => decide (uptoBulkAll ds ≤ 1048576)
def OpenSpec.upto (s : _root_.Go.ChangeSpec) : _root_.Go.OpenSpec := { _root_.Go.OpenSpec.ofChange s with cond := some uptoSmall }

/-- 'nacrelaw09.InfoPuts', WHERE WHAT IT READS IS OF BULK AT MOST 1048576: true; the input reads as it did. -/
def infoPutsUptoRow : OpenClaim := { program := "ytceeilpobdgfdaa", sum := "dfcd801beb4cf34ac2e968a5319a5393fc101bfb745a6027f94d6bbe240a16be", func := "nacre/nacrelaw09.InfoPuts", spec := "infoPuts", apart := false, narrowed := true }
def InfoPutsUptoSaid : Prop := infoPutsUptoRow.holds Try.pinned (OpenSpec.upto infoPutsSpec)

/-- 'nacrelaw09.InfoGets', WHERE WHAT IT READS IS OF BULK AT MOST 1048576: true; the input reads as it did. -/
def infoGetsUptoRow : OpenClaim := { program := "ytceeilpobdgfdaa", sum := "dfcd801beb4cf34ac2e968a5319a5393fc101bfb745a6027f94d6bbe240a16be", func := "nacre/nacrelaw09.InfoGets", spec := "infoGets", unfollowed := true, recurses := true, apart := false, narrowed := true }
def InfoGetsUptoSaid : Prop := infoGetsUptoRow.holds Try.pinned (OpenSpec.upto infoGetsSpec)

/-- 'nacrelaw09.InfoBack', WHERE WHAT IT READS IS OF BULK AT MOST 1048576: true; the input reads as it did. -/
def infoBackUptoRow : OpenClaim := { program := "ytceeilpobdgfdaa", sum := "dfcd801beb4cf34ac2e968a5319a5393fc101bfb745a6027f94d6bbe240a16be", func := "nacre/nacrelaw09.InfoBack", spec := "infoBack", unfollowed := true, recurses := true, apart := false, narrowed := true }
def InfoBackUptoSaid : Prop := infoBackUptoRow.holds Try.pinned (OpenSpec.upto infoBackSpec)

end Rows
end Go.Proofs.Ytceeilpobdgfdaa
