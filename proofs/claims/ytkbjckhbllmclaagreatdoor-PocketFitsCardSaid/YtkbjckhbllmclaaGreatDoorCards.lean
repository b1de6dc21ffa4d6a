/-
  DERIVED. GIVEN WITH THE SEED: THE CARDS: each row of YtkbjckhbllmclaaGreatDoorRows.lean that lists a variable, with what it lists TIED to the program's text (the seventh form; the later family's looks); each row that meets fmt, with fmt's text TOLD by the authors' own Lean function (tested against real Go, not proved from fmt's source: count such statements apart). THE CARD IS WHAT COUNTS. Prove the row's statement (the work); the ties are given (YtkbjckhbllmclaaGreatDoorTie.lean); close each card by the builder's one call (the guide's Derived/Test/ToyasCard.lean, 'card_holds'). Laid BY PROGRAM, IN A SANDBOX (cutbox-door.mjs). By AI agents, Wed Nov 11 2026. No macro, syntax, notation, axiom, sorry.
-/
import Derived.Test.YtkbjckhbllmclaaGreatDoorRows
import GoSem.ClaimSeven
namespace Go.Proofs.YtkbjckhbllmclaaGreatDoor
namespace Rows

/-- THE TIED CARD OF 'nacrelaw17.PocketFits'. -/
def pocketFitsCard : Claim7 := { stood := { row := pocketFitsRow, standIns := [], harness := (true, "2ff00d47c114ca93f69387ea75a2b5b48a972c7ebeb8d538d89179b482e9ed20"), looks := false }, kinds := [], alts := [], laidByText := true, laidKinds := [.data], laidTests := true, laidLooks := .later }
def PocketFitsCardSaid : Prop := Claim7.holds Tryz.pinned (.plain (OpenSpec.ofChange pocketFitsSpec)) pocketFitsCard

/-- THE SECOND FORM's CARD OF 'nacrelaw17.PocketFits'. -/
def pocketFitsUptoCard : Claim7 := { stood := { row := pocketFitsUptoRow, standIns := [], harness := (true, "2ff00d47c114ca93f69387ea75a2b5b48a972c7ebeb8d538d89179b482e9ed20"), looks := false }, kinds := [], alts := [], laidByText := true, laidKinds := [.data], laidTests := true, laidLooks := .later }
def PocketFitsUptoCardSaid : Prop := Claim7.holds Tryz.pinned (.plain (OpenSpec.upto pocketFitsSpec)) pocketFitsUptoCard
end Rows
end Go.Proofs.YtkbjckhbllmclaaGreatDoor
