/-
  DERIVED. GIVEN WITH THE SEED: THE CARDS: each row of YtioolaaphbddbaaGreatDoorRows.lean that lists a variable, with what it lists TIED to the program's text (the seventh form; the later family's looks); each row that meets fmt, with fmt's text TOLD by the authors' own Lean function (tested against real Go, not proved from fmt's source: count such statements apart). THE CARD IS WHAT COUNTS. Prove the row's statement (the work); the ties are given (YtioolaaphbddbaaGreatDoorTie.lean); close each card by the builder's one call (the guide's Derived/Test/ToyasCard.lean, 'card_holds'). Laid BY PROGRAM, IN A SANDBOX (cutbox-door.mjs). By AI agents, Wed Nov 11 2026. No macro, syntax, notation, axiom, sorry.
-/
import Derived.Test.YtioolaaphbddbaaGreatDoorRows
import GoSem.ClaimSeven
namespace Go.Proofs.YtioolaaphbddbaaGreatDoor
namespace Rows

/-- THE TIED CARD OF 'nacrelaw16.SlabPicks'. -/
def slabPicksCard : Claim7 := { stood := { row := slabPicksRow, standIns := [], harness := (true, "223f959ca5b177d77164709cb928eb78438bb1c4a4969ce0c5bfda63fc81f775"), looks := false }, kinds := [], alts := [], laidByText := true, laidKinds := [.data], laidTests := true, laidLooks := .later }
def SlabPicksCardSaid : Prop := Claim7.holds Tryz.pinned (.plain (OpenSpec.ofChange slabPicksSpec)) slabPicksCard

/-- THE TIED CARD OF 'nacrelaw16.SlabGives'. -/
def slabGivesCard : Claim7 := { stood := { row := slabGivesRow, standIns := [], harness := (true, "223f959ca5b177d77164709cb928eb78438bb1c4a4969ce0c5bfda63fc81f775"), looks := false }, kinds := [], alts := [], laidByText := true, laidKinds := [.data], laidTests := true, laidLooks := .later }
def SlabGivesCardSaid : Prop := Claim7.holds Tryz.pinned (.plain (OpenSpec.ofChange slabGivesSpec)) slabGivesCard

/-- THE TIED CARD OF 'nacrelaw16.SlabKeeps'. -/
def slabKeepsCard : Claim7 := { stood := { row := slabKeepsRow, standIns := [], harness := (true, "223f959ca5b177d77164709cb928eb78438bb1c4a4969ce0c5bfda63fc81f775"), looks := false }, kinds := [], alts := [], laidByText := true, laidKinds := [.data], laidTests := true, laidLooks := .later }
def SlabKeepsCardSaid : Prop := Claim7.holds Tryz.pinned (.plain (OpenSpec.ofChange slabKeepsSpec)) slabKeepsCard

/-- THE TIED CARD OF 'nacrelaw16.SlabBack'. -/
def slabBackCard : Claim7 := { stood := { row := slabBackRow, standIns := [], harness := (true, "223f959ca5b177d77164709cb928eb78438bb1c4a4969ce0c5bfda63fc81f775"), looks := false }, kinds := [], alts := [], laidByText := true, laidKinds := [.data], laidTests := true, laidLooks := .later }
def SlabBackCardSaid : Prop := Claim7.holds Tryz.pinned (.plain (OpenSpec.ofChange slabBackSpec)) slabBackCard

/-- THE SECOND FORM's CARD OF 'nacrelaw16.SlabPicks'. -/
def slabPicksUptoCard : Claim7 := { stood := { row := slabPicksUptoRow, standIns := [], harness := (true, "223f959ca5b177d77164709cb928eb78438bb1c4a4969ce0c5bfda63fc81f775"), looks := false }, kinds := [], alts := [], laidByText := true, laidKinds := [.data], laidTests := true, laidLooks := .later }
def SlabPicksUptoCardSaid : Prop := Claim7.holds Tryz.pinned (.plain (OpenSpec.upto slabPicksSpec)) slabPicksUptoCard

/-- THE SECOND FORM's CARD OF 'nacrelaw16.SlabGives'. -/
def slabGivesUptoCard : Claim7 := { stood := { row := slabGivesUptoRow, standIns := [], harness := (true, "223f959ca5b177d77164709cb928eb78438bb1c4a4969ce0c5bfda63fc81f775"), looks := false }, kinds := [], alts := [], laidByText := true, laidKinds := [.data], laidTests := true, laidLooks := .later }
def SlabGivesUptoCardSaid : Prop := Claim7.holds Tryz.pinned (.plain (OpenSpec.upto slabGivesSpec)) slabGivesUptoCard

/-- THE SECOND FORM's CARD OF 'nacrelaw16.SlabKeeps'. -/
def slabKeepsUptoCard : Claim7 := { stood := { row := slabKeepsUptoRow, standIns := [], harness := (true, "223f959ca5b177d77164709cb928eb78438bb1c4a4969ce0c5bfda63fc81f775"), looks := false }, kinds := [], alts := [], laidByText := true, laidKinds := [.data], laidTests := true, laidLooks := .later }
def SlabKeepsUptoCardSaid : Prop := Claim7.holds Tryz.pinned (.plain (OpenSpec.upto slabKeepsSpec)) slabKeepsUptoCard

/-- THE SECOND FORM's CARD OF 'nacrelaw16.SlabBack'. -/
def slabBackUptoCard : Claim7 := { stood := { row := slabBackUptoRow, standIns := [], harness := (true, "223f959ca5b177d77164709cb928eb78438bb1c4a4969ce0c5bfda63fc81f775"), looks := false }, kinds := [], alts := [], laidByText := true, laidKinds := [.data], laidTests := true, laidLooks := .later }
def SlabBackUptoCardSaid : Prop := Claim7.holds Tryz.pinned (.plain (OpenSpec.upto slabBackSpec)) slabBackUptoCard
end Rows
end Go.Proofs.YtioolaaphbddbaaGreatDoor
