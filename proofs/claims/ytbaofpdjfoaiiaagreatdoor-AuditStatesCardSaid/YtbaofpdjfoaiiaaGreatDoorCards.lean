/-
  DERIVED. GIVEN WITH THE SEED: THE CARDS: each row of YtbaofpdjfoaiiaaGreatDoorRows.lean that lists a variable, with what it lists TIED to the program's text (the seventh form; the later family's looks); each row that meets fmt, with fmt's text TOLD by the authors' own Lean function (tested against real Go, not proved from fmt's source: count such statements apart). THE CARD IS WHAT COUNTS. Prove the row's statement (the work); the ties are given (YtbaofpdjfoaiiaaGreatDoorTie.lean); close each card by the builder's one call (the guide's Derived/Test/ToyasCard.lean, 'card_holds'). Laid BY PROGRAM, IN A SANDBOX (cutbox-door.mjs). By AI agents, Wed Nov 11 2026. No macro, syntax, notation, axiom, sorry.
-/
import Derived.Test.YtbaofpdjfoaiiaaGreatDoorRows
import GoSem.ClaimSeven
namespace Go.Proofs.YtbaofpdjfoaiiaaGreatDoor
namespace Rows

/-- THE TIED CARD OF 'nacrelaw12.AuditChecks'. -/
def auditChecksCard : Claim7 := { stood := { row := auditChecksRow, standIns := [], harness := (true, "e5a330f8b25b03ca40c0e8bda41d555026536080a12e07e12a1d4b680f1d2dc6"), looks := false }, kinds := [], alts := [], laidByText := true, laidKinds := [.data], laidTests := true, laidLooks := .later }
def AuditChecksCardSaid : Prop := Claim7.holds Tryz.pinned (.plain (OpenSpec.ofChange auditChecksSpec)) auditChecksCard

/-- THE TIED CARD OF 'nacrelaw12.AuditStates'. -/
def auditStatesCard : Claim7 := { stood := { row := auditStatesRow, standIns := [], harness := (true, "e5a330f8b25b03ca40c0e8bda41d555026536080a12e07e12a1d4b680f1d2dc6"), looks := false }, kinds := [], alts := [], laidByText := true, laidKinds := [.data], laidTests := true, laidLooks := .later }
def AuditStatesCardSaid : Prop := Claim7.holds Tryz.pinned (.plain (OpenSpec.ofChange auditStatesSpec)) auditStatesCard

/-- THE TIED CARD OF 'nacrelaw12.AuditParts'. -/
def auditPartsCard : Claim7 := { stood := { row := auditPartsRow, standIns := [], harness := (true, "e5a330f8b25b03ca40c0e8bda41d555026536080a12e07e12a1d4b680f1d2dc6"), looks := false }, kinds := [], alts := [], laidByText := true, laidKinds := [.data], laidTests := true, laidLooks := .later }
def AuditPartsCardSaid : Prop := Claim7.holds Tryz.pinned (.plain (OpenSpec.ofChange auditPartsSpec)) auditPartsCard

/-- THE SECOND FORM's CARD OF 'nacrelaw12.AuditChecks'. -/
def auditChecksUptoCard : Claim7 := { stood := { row := auditChecksUptoRow, standIns := [], harness := (true, "e5a330f8b25b03ca40c0e8bda41d555026536080a12e07e12a1d4b680f1d2dc6"), looks := false }, kinds := [], alts := [], laidByText := true, laidKinds := [.data], laidTests := true, laidLooks := .later }
def AuditChecksUptoCardSaid : Prop := Claim7.holds Tryz.pinned (.plain (OpenSpec.upto auditChecksSpec)) auditChecksUptoCard

/-- THE SECOND FORM's CARD OF 'nacrelaw12.AuditStates'. -/
def auditStatesUptoCard : Claim7 := { stood := { row := auditStatesUptoRow, standIns := [], harness := (true, "e5a330f8b25b03ca40c0e8bda41d555026536080a12e07e12a1d4b680f1d2dc6"), looks := false }, kinds := [], alts := [], laidByText := true, laidKinds := [.data], laidTests := true, laidLooks := .later }
def AuditStatesUptoCardSaid : Prop := Claim7.holds Tryz.pinned (.plain (OpenSpec.upto auditStatesSpec)) auditStatesUptoCard

/-- THE SECOND FORM's CARD OF 'nacrelaw12.AuditParts'. -/
def auditPartsUptoCard : Claim7 := { stood := { row := auditPartsUptoRow, standIns := [], harness := (true, "e5a330f8b25b03ca40c0e8bda41d555026536080a12e07e12a1d4b680f1d2dc6"), looks := false }, kinds := [], alts := [], laidByText := true, laidKinds := [.data], laidTests := true, laidLooks := .later }
def AuditPartsUptoCardSaid : Prop := Claim7.holds Tryz.pinned (.plain (OpenSpec.upto auditPartsSpec)) auditPartsUptoCard
end Rows
end Go.Proofs.YtbaofpdjfoaiiaaGreatDoor
