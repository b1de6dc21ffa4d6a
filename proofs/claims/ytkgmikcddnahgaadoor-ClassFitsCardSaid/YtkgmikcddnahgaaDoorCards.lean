/-
  DERIVED. GIVEN WITH THE SEED: THE CARDS: each row of YtkgmikcddnahgaaDoorRows.lean that lists a variable, with what it lists TIED to the program's text (the seventh form; the later family's looks); each row that meets fmt, with fmt's text TOLD by the authors' own Lean function (tested against real Go, not proved from fmt's source: count such statements apart). THE CARD IS WHAT COUNTS. Prove the row's statement (the work); the ties are given (YtkgmikcddnahgaaDoorTie.lean); close each card by the builder's one call (the guide's Derived/Test/ToyasCard.lean, 'card_holds'). Laid BY PROGRAM, IN A SANDBOX (cutbox-door.mjs). By AI agents, Wed Nov 11 2026. No macro, syntax, notation, axiom, sorry.
-/
import Derived.Test.YtkgmikcddnahgaaDoorRows
import GoSem.ClaimSeven
namespace Go.Proofs.YtkgmikcddnahgaaDoor
namespace Rows

/-- THE TIED CARD OF 'nacrelaw05.ClassTables'. -/
def classTablesCard : Claim7 := { stood := { row := classTablesRow, standIns := [], harness := (true, "b7195dd02d743b557bcee893ffbf44052fba33cacb82463c1c4ca1bc01396e6b"), looks := false }, kinds := [], alts := [], laidByText := true, laidKinds := [.data], laidTests := true, laidLooks := .later }
def ClassTablesCardSaid : Prop := Claim7.holds Tryd.pinned (.plain (OpenSpec.ofChange classTablesSpec)) classTablesCard

/-- THE TIED CARD OF 'nacrelaw05.ClassOf'. -/
def classOfCard : Claim7 := { stood := { row := classOfRow, standIns := [], harness := (true, "b7195dd02d743b557bcee893ffbf44052fba33cacb82463c1c4ca1bc01396e6b"), looks := false }, kinds := [], alts := [], laidByText := true, laidKinds := [.data], laidTests := true, laidLooks := .later }
def ClassOfCardSaid : Prop := Claim7.holds Tryd.pinned (.plain (OpenSpec.ofChange classOfSpec)) classOfCard

/-- THE TIED CARD OF 'nacrelaw05.ClassFits'. -/
def classFitsCard : Claim7 := { stood := { row := classFitsRow, standIns := [], harness := (true, "b7195dd02d743b557bcee893ffbf44052fba33cacb82463c1c4ca1bc01396e6b"), looks := false }, kinds := [], alts := [], laidByText := true, laidKinds := [.data], laidTests := true, laidLooks := .later }
def ClassFitsCardSaid : Prop := Claim7.holds Tryd.pinned (.plain (OpenSpec.ofChange classFitsSpec)) classFitsCard

/-- THE SECOND FORM's CARD OF 'nacrelaw05.ClassTables'. -/
def classTablesUptoCard : Claim7 := { stood := { row := classTablesUptoRow, standIns := [], harness := (true, "b7195dd02d743b557bcee893ffbf44052fba33cacb82463c1c4ca1bc01396e6b"), looks := false }, kinds := [], alts := [], laidByText := true, laidKinds := [.data], laidTests := true, laidLooks := .later }
def ClassTablesUptoCardSaid : Prop := Claim7.holds Tryd.pinned (.plain (OpenSpec.upto classTablesSpec)) classTablesUptoCard

/-- THE SECOND FORM's CARD OF 'nacrelaw05.ClassOf'. -/
def classOfUptoCard : Claim7 := { stood := { row := classOfUptoRow, standIns := [], harness := (true, "b7195dd02d743b557bcee893ffbf44052fba33cacb82463c1c4ca1bc01396e6b"), looks := false }, kinds := [], alts := [], laidByText := true, laidKinds := [.data], laidTests := true, laidLooks := .later }
def ClassOfUptoCardSaid : Prop := Claim7.holds Tryd.pinned (.plain (OpenSpec.upto classOfSpec)) classOfUptoCard

/-- THE SECOND FORM's CARD OF 'nacrelaw05.ClassFits'. -/
def classFitsUptoCard : Claim7 := { stood := { row := classFitsUptoRow, standIns := [], harness := (true, "b7195dd02d743b557bcee893ffbf44052fba33cacb82463c1c4ca1bc01396e6b"), looks := false }, kinds := [], alts := [], laidByText := true, laidKinds := [.data], laidTests := true, laidLooks := .later }
def ClassFitsUptoCardSaid : Prop := Claim7.holds Tryd.pinned (.plain (OpenSpec.upto classFitsSpec)) classFitsUptoCard
end Rows
end Go.Proofs.YtkgmikcddnahgaaDoor
