/-
  DERIVED. GIVEN WITH THE SEED: THE CARDS: each row of YtnmhdlpnimdffaaGreatDoorRows.lean that lists a variable, with what it lists TIED to the program's text (the seventh form; the later family's looks); each row that meets fmt, with fmt's text TOLD by the authors' own Lean function (tested against real Go, not proved from fmt's source: count such statements apart). THE CARD IS WHAT COUNTS. Prove the row's statement (the work); the ties are given (YtnmhdlpnimdffaaGreatDoorTie.lean); close each card by the builder's one call (the guide's Derived/Test/ToyasCard.lean, 'card_holds'). Laid BY PROGRAM, IN A SANDBOX (cutbox-door.mjs). By AI agents, Wed Nov 11 2026. No macro, syntax, notation, axiom, sorry.
-/
import Derived.Test.YtnmhdlpnimdffaaGreatDoorRows
import GoSem.ClaimSeven
namespace Go.Proofs.YtnmhdlpnimdffaaGreatDoor
namespace Rows

/-- THE TIED CARD OF 'nacrelaw24.SweepPages'. -/
def sweepPagesCard : Claim7 := { stood := { row := sweepPagesRow, standIns := [], harness := (true, "f155b95d5ede3fcd178c14bbbe5d3823d07b5871e8735da9a5e495a1d257415f"), looks := false }, kinds := [], alts := [], laidByText := true, laidKinds := [.data], laidTests := true, laidLooks := .later }
def SweepPagesCardSaid : Prop := Claim7.holds Tryz.pinned (.plain (OpenSpec.ofChange sweepPagesSpec)) sweepPagesCard

/-- THE TIED CARD OF 'nacrelaw24.SweepKeeps'. -/
def sweepKeepsCard : Claim7 := { stood := { row := sweepKeepsRow, standIns := [], harness := (true, "f155b95d5ede3fcd178c14bbbe5d3823d07b5871e8735da9a5e495a1d257415f"), looks := false }, kinds := [], alts := [], laidByText := true, laidKinds := [.data], laidTests := true, laidLooks := .later }
def SweepKeepsCardSaid : Prop := Claim7.holds Tryz.pinned (.plain (OpenSpec.ofChange sweepKeepsSpec)) sweepKeepsCard

/-- THE TIED CARD OF 'nacrelaw24.SweepAny'. -/
def sweepAnyCard : Claim7 := { stood := { row := sweepAnyRow, standIns := [], harness := (true, "f155b95d5ede3fcd178c14bbbe5d3823d07b5871e8735da9a5e495a1d257415f"), looks := false }, kinds := [], alts := [], laidByText := true, laidKinds := [.data], laidTests := true, laidLooks := .later }
def SweepAnyCardSaid : Prop := Claim7.holds Tryz.pinned (.plain (OpenSpec.ofChange sweepAnySpec)) sweepAnyCard

/-- THE SECOND FORM's CARD OF 'nacrelaw24.SweepPages'. -/
def sweepPagesUptoCard : Claim7 := { stood := { row := sweepPagesUptoRow, standIns := [], harness := (true, "f155b95d5ede3fcd178c14bbbe5d3823d07b5871e8735da9a5e495a1d257415f"), looks := false }, kinds := [], alts := [], laidByText := true, laidKinds := [.data], laidTests := true, laidLooks := .later }
def SweepPagesUptoCardSaid : Prop := Claim7.holds Tryz.pinned (.plain (OpenSpec.upto sweepPagesSpec)) sweepPagesUptoCard

/-- THE SECOND FORM's CARD OF 'nacrelaw24.SweepKeeps'. -/
def sweepKeepsUptoCard : Claim7 := { stood := { row := sweepKeepsUptoRow, standIns := [], harness := (true, "f155b95d5ede3fcd178c14bbbe5d3823d07b5871e8735da9a5e495a1d257415f"), looks := false }, kinds := [], alts := [], laidByText := true, laidKinds := [.data], laidTests := true, laidLooks := .later }
def SweepKeepsUptoCardSaid : Prop := Claim7.holds Tryz.pinned (.plain (OpenSpec.upto sweepKeepsSpec)) sweepKeepsUptoCard

/-- THE SECOND FORM's CARD OF 'nacrelaw24.SweepAny'. -/
def sweepAnyUptoCard : Claim7 := { stood := { row := sweepAnyUptoRow, standIns := [], harness := (true, "f155b95d5ede3fcd178c14bbbe5d3823d07b5871e8735da9a5e495a1d257415f"), looks := false }, kinds := [], alts := [], laidByText := true, laidKinds := [.data], laidTests := true, laidLooks := .later }
def SweepAnyUptoCardSaid : Prop := Claim7.holds Tryz.pinned (.plain (OpenSpec.upto sweepAnySpec)) sweepAnyUptoCard
end Rows
end Go.Proofs.YtnmhdlpnimdffaaGreatDoor
