/-
  NARROWER THAN 'FOR EVERY INPUT', by the rows' own cells (each row's printed sentence says how): SmallAllocs: laid · SmallFrees: laid · SmallKeeps: laid · SmallFlushes: laid.
  DERIVED. THE GIVEN ROWS OF THIS SEAT. 4 by the template 'for every input the law returns true; each argument reads behind the call as it read before'; 0 by the template 'total and deterministic' (their statements: YtjjfcaliippgpaaGreatDoorTotals.lean).
  GIVEN WITH THE SEED: the statements are not yours to turn. If you find one false, say at which input.
  Laid BY PROGRAM, IN A SANDBOX (cutbox-rows.mjs): the forced cells as the released guide's own fill.sh prints them over the translation 857e1765460ff45b… (all of the seat's roots in one cut). By AI agents, Wed Nov 11 2026. No macro, syntax, notation, axiom, sorry.
-/
import Derived.Test.YtjjfcaliippgpaaGreatDoorChecked
import GoSem.Claim
import GoSem.ClaimJoined
import GoSem.ClaimMapViews
import Derived.JoinedTies
import Derived.KernelRfl
namespace Go.Proofs.YtjjfcaliippgpaaGreatDoor
/- THE CELL 'sum', in the pinned program and in every row, IS THE sha256 OF THE DUMP (.gsa) THAT YtjjfcaliippgpaaGreatDoorProg.lean LOADS. Nothing in Lean hashes anything: it is a label: what it is worth is what the hold of that sum in a sandbox is worth. -/
noncomputable def Tryz.pinned : Pinned := { name := "ytjjfcaliippgpaagreatdoor", sum := "857e1765460ff45b49613f0b17ac90d7db04110bc9214d77fd60817a3201204c", checked := Tryz.checked }
namespace Rows
def none {H : Type} : Left H := { results := [], args := [] }

/- WHAT THE LISTED PACKAGE-LEVEL VARIABLES READ AS WHEN THE CALL BEGINS. Each datum BY PROGRAM (the guide's laid-datum.mjs) off the statement by which the dump's own 'gosem.cut.vars' lays the variable. In a bare row this is a premise. The card (YtjjfcaliippgpaaGreatDoorCards.lean) ties it to the program's text. -/
def laid_nacre_class_slots {H : Type} : DataW H := .agg [.lit (.int .i64 32), .lit (.int .i64 21), .lit (.int .i64 16), .lit (.int .i64 10), .lit (.int .i64 8), .lit (.int .i64 5), .lit (.int .i64 4), .lit (.int .i64 3), .lit (.int .i64 2)]

/-- 'nacrelaw18.SmallAllocs': WHATEVER THE INPUT: true; the input reads as it did. -/
def smallAllocsSpec : ChangeSpec := { name := "smallAllocs", fn := fun _ => fun
  | [d1, d2, d3] => { results := [.lit (.bool true)], args := [d1, d2, d3] }
  | _ => none }
def smallAllocsRow : OpenClaim := { program := "ytjjfcaliippgpaagreatdoor", sum := "857e1765460ff45b49613f0b17ac90d7db04110bc9214d77fd60817a3201204c", func := "nacre/nacrelaw18.SmallAllocs", spec := "smallAllocs", unfollowed := true, recurses := true, named := ["nacre/class.slots"], apart := false, laid := [("nacre/class.slots", laid_nacre_class_slots)] }
def SmallAllocsSaid : Prop := smallAllocsRow.holds Tryz.pinned (OpenSpec.ofChange smallAllocsSpec)

/-- ITS FALSE NEIGHBOUR: 'it returns false'. Refute it at one input. -/
def smallAllocsWrong : ChangeSpec := { name := "smallAllocs", fn := fun _ => fun
  | [d1, d2, d3] => { results := [.lit (.bool false)], args := [d1, d2, d3] }
  | _ => none }
def SmallAllocsWrongFalsely : Prop := smallAllocsRow.holds Tryz.pinned (OpenSpec.ofChange smallAllocsWrong)

/-- 'nacrelaw18.SmallFrees': WHATEVER THE INPUT: true; the input reads as it did. -/
def smallFreesSpec : ChangeSpec := { name := "smallFrees", fn := fun _ => fun
  | [d1, d2, d3] => { results := [.lit (.bool true)], args := [d1, d2, d3] }
  | _ => none }
def smallFreesRow : OpenClaim := { program := "ytjjfcaliippgpaagreatdoor", sum := "857e1765460ff45b49613f0b17ac90d7db04110bc9214d77fd60817a3201204c", func := "nacre/nacrelaw18.SmallFrees", spec := "smallFrees", unfollowed := true, recurses := true, named := ["nacre/class.slots"], apart := false, laid := [("nacre/class.slots", laid_nacre_class_slots)] }
def SmallFreesSaid : Prop := smallFreesRow.holds Tryz.pinned (OpenSpec.ofChange smallFreesSpec)

/-- ITS FALSE NEIGHBOUR: 'it returns false'. Refute it at one input. -/
def smallFreesWrong : ChangeSpec := { name := "smallFrees", fn := fun _ => fun
  | [d1, d2, d3] => { results := [.lit (.bool false)], args := [d1, d2, d3] }
  | _ => none }
def SmallFreesWrongFalsely : Prop := smallFreesRow.holds Tryz.pinned (OpenSpec.ofChange smallFreesWrong)

/-- 'nacrelaw18.SmallKeeps': WHATEVER THE INPUT: true; the input reads as it did. -/
def smallKeepsSpec : ChangeSpec := { name := "smallKeeps", fn := fun _ => fun
  | [d1, d2, d3] => { results := [.lit (.bool true)], args := [d1, d2, d3] }
  | _ => none }
def smallKeepsRow : OpenClaim := { program := "ytjjfcaliippgpaagreatdoor", sum := "857e1765460ff45b49613f0b17ac90d7db04110bc9214d77fd60817a3201204c", func := "nacre/nacrelaw18.SmallKeeps", spec := "smallKeeps", unfollowed := true, recurses := true, named := ["nacre/class.slots"], apart := false, laid := [("nacre/class.slots", laid_nacre_class_slots)] }
def SmallKeepsSaid : Prop := smallKeepsRow.holds Tryz.pinned (OpenSpec.ofChange smallKeepsSpec)

/-- ITS FALSE NEIGHBOUR: 'it returns false'. Refute it at one input. -/
def smallKeepsWrong : ChangeSpec := { name := "smallKeeps", fn := fun _ => fun
  | [d1, d2, d3] => { results := [.lit (.bool false)], args := [d1, d2, d3] }
  | _ => none }
def SmallKeepsWrongFalsely : Prop := smallKeepsRow.holds Tryz.pinned (OpenSpec.ofChange smallKeepsWrong)

/-- 'nacrelaw18.SmallFlushes': WHATEVER THE INPUT: true; the input reads as it did. -/
def smallFlushesSpec : ChangeSpec := { name := "smallFlushes", fn := fun _ => fun
  | [d1, d2, d3] => { results := [.lit (.bool true)], args := [d1, d2, d3] }
  | _ => none }
def smallFlushesRow : OpenClaim := { program := "ytjjfcaliippgpaagreatdoor", sum := "857e1765460ff45b49613f0b17ac90d7db04110bc9214d77fd60817a3201204c", func := "nacre/nacrelaw18.SmallFlushes", spec := "smallFlushes", unfollowed := true, recurses := true, named := ["nacre/class.slots"], apart := false, laid := [("nacre/class.slots", laid_nacre_class_slots)] }
def SmallFlushesSaid : Prop := smallFlushesRow.holds Tryz.pinned (OpenSpec.ofChange smallFlushesSpec)

/-- ITS FALSE NEIGHBOUR: 'it returns false'. Refute it at one input. -/
def smallFlushesWrong : ChangeSpec := { name := "smallFlushes", fn := fun _ => fun
  | [d1, d2, d3] => { results := [.lit (.bool false)], args := [d1, d2, d3] }
  | _ => none }
def SmallFlushesWrongFalsely : Prop := smallFlushesRow.holds Tryz.pinned (OpenSpec.ofChange smallFlushesWrong)

/- THE SECOND FORM. 'bulk': how many values and letters a reading holds, each counted each time it is reached (what is shared counts as often as it is met; a slice's spare places count too). A statement '..UptoSaid' is the law's where the arguments, and the package variables that the reading takes, are together of bulk at most 1048576: NARROWER than '..Said'. Prove '..Said' where nothing that the law and all that it calls make is longer than what came in: it says more and counts as full. Else prove '..UptoSaid'. A law counts once. -/
mutual
def uptoBulk {H : Type} : DataW H → Nat
  | .lit (.string bytes) => bytes.length + 1
  | .lit _ => 1
  | .nil => 1
  | .ptr d => uptoBulk d + 1
  | .slice elems spare => uptoBulkAll elems + uptoBulkAll spare + 1
  | .agg parts => uptoBulkAll parts + 1
  | .iface _ d => uptoBulk d + 1
  | .map entries => uptoBulkEntries entries + 1
  | .held _ => 1
def uptoBulkAll {H : Type} : List (DataW H) → Nat
  | [] => 0
  | d :: r => uptoBulk d + uptoBulkAll r
def uptoBulkEntries {H : Type} : List (Lit × DataW H) → Nat
  | [] => 0
  | x :: r => uptoBulkEntry x + uptoBulkEntries r
def uptoBulkEntry {H : Type} : Lit × DataW H → Nat
  | (.string bytes, d) => bytes.length + uptoBulk d + 1
  | (_, d) => uptoBulk d + 1
 end
def uptoSmall : (H : Type) → List (DataW H) → Bool := fun _ ds => decide (uptoBulkAll ds ≤ 1048576)
def OpenSpec.upto (s : _root_.Go.ChangeSpec) : _root_.Go.OpenSpec := { _root_.Go.OpenSpec.ofChange s with cond := some uptoSmall }

/-- 'nacrelaw18.SmallAllocs', WHERE WHAT IT READS IS OF BULK AT MOST 1048576: true; the input reads as it did. -/
def smallAllocsUptoRow : OpenClaim := { program := "ytjjfcaliippgpaagreatdoor", sum := "857e1765460ff45b49613f0b17ac90d7db04110bc9214d77fd60817a3201204c", func := "nacre/nacrelaw18.SmallAllocs", spec := "smallAllocs", unfollowed := true, recurses := true, named := ["nacre/class.slots"], apart := false, laid := [("nacre/class.slots", laid_nacre_class_slots)], narrowed := true }
def SmallAllocsUptoSaid : Prop := smallAllocsUptoRow.holds Tryz.pinned (OpenSpec.upto smallAllocsSpec)

/-- 'nacrelaw18.SmallFrees', WHERE WHAT IT READS IS OF BULK AT MOST 1048576: true; the input reads as it did. -/
def smallFreesUptoRow : OpenClaim := { program := "ytjjfcaliippgpaagreatdoor", sum := "857e1765460ff45b49613f0b17ac90d7db04110bc9214d77fd60817a3201204c", func := "nacre/nacrelaw18.SmallFrees", spec := "smallFrees", unfollowed := true, recurses := true, named := ["nacre/class.slots"], apart := false, laid := [("nacre/class.slots", laid_nacre_class_slots)], narrowed := true }
def SmallFreesUptoSaid : Prop := smallFreesUptoRow.holds Tryz.pinned (OpenSpec.upto smallFreesSpec)

/-- 'nacrelaw18.SmallKeeps', WHERE WHAT IT READS IS OF BULK AT MOST 1048576: true; the input reads as it did. -/
def smallKeepsUptoRow : OpenClaim := { program := "ytjjfcaliippgpaagreatdoor", sum := "857e1765460ff45b49613f0b17ac90d7db04110bc9214d77fd60817a3201204c", func := "nacre/nacrelaw18.SmallKeeps", spec := "smallKeeps", unfollowed := true, recurses := true, named := ["nacre/class.slots"], apart := false, laid := [("nacre/class.slots", laid_nacre_class_slots)], narrowed := true }
def SmallKeepsUptoSaid : Prop := smallKeepsUptoRow.holds Tryz.pinned (OpenSpec.upto smallKeepsSpec)

/-- 'nacrelaw18.SmallFlushes', WHERE WHAT IT READS IS OF BULK AT MOST 1048576: true; the input reads as it did. -/
def smallFlushesUptoRow : OpenClaim := { program := "ytjjfcaliippgpaagreatdoor", sum := "857e1765460ff45b49613f0b17ac90d7db04110bc9214d77fd60817a3201204c", func := "nacre/nacrelaw18.SmallFlushes", spec := "smallFlushes", unfollowed := true, recurses := true, named := ["nacre/class.slots"], apart := false, laid := [("nacre/class.slots", laid_nacre_class_slots)], narrowed := true }
def SmallFlushesUptoSaid : Prop := smallFlushesUptoRow.holds Tryz.pinned (OpenSpec.upto smallFlushesSpec)

end Rows
end Go.Proofs.YtjjfcaliippgpaaGreatDoor
