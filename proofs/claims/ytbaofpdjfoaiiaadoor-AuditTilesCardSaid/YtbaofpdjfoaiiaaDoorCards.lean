/-
  DERIVED. GIVEN WITH THE SEED: THE CARDS: each row of YtbaofpdjfoaiiaaDoorRows.lean that lists a variable, with what it lists TIED to the program's text (the seventh form; the later family's looks); each row that meets fmt, with fmt's text TOLD by the authors' own Lean function (tested against real Go, not proved from fmt's source: count such statements apart). THE CARD IS WHAT COUNTS. Prove the row's statement (the work); the ties are given (YtbaofpdjfoaiiaaDoorTie.lean); close each card by the builder's one call (the guide's Derived/Test/ToyasCard.lean, 'card_holds'). Laid BY PROGRAM, IN A SANDBOX (cutbox-door.mjs). By AI agents, Wed Nov 11 2026. No macro, syntax, notation, axiom, sorry.
-/
import Derived.Test.YtbaofpdjfoaiiaaDoorRows
import GoSem.ClaimSeven
namespace Go.Proofs.YtbaofpdjfoaiiaaDoor
namespace Rows

/-- THE TIED CARD OF 'nacrelaw12.AuditTiles'. -/
def auditTilesCard : Claim7 := { stood := { row := auditTilesRow, standIns := [], harness := (true, "89be37e81156114098df910a80a2b5de5ce3e013aa1e5b02b8665398603765d5"), looks := false }, kinds := [], alts := [], laidByText := true, laidKinds := [.data], laidTests := true, laidLooks := .later }
def AuditTilesCardSaid : Prop := Claim7.holds Tryd.pinned (.plain (OpenSpec.ofChange auditTilesSpec)) auditTilesCard

/-- THE SECOND FORM's CARD OF 'nacrelaw12.AuditTiles'. -/
def auditTilesUptoCard : Claim7 := { stood := { row := auditTilesUptoRow, standIns := [], harness := (true, "89be37e81156114098df910a80a2b5de5ce3e013aa1e5b02b8665398603765d5"), looks := false }, kinds := [], alts := [], laidByText := true, laidKinds := [.data], laidTests := true, laidLooks := .later }
def AuditTilesUptoCardSaid : Prop := Claim7.holds Tryd.pinned (.plain (OpenSpec.upto auditTilesSpec)) auditTilesUptoCard
end Rows
end Go.Proofs.YtbaofpdjfoaiiaaDoor
