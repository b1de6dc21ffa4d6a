/-
  DERIVED. GIVEN WITH THE SEED: THE CARDS: each row of YtnbocmnfcgjimaaDoorRows.lean that lists a variable, with what it lists TIED to the program's text (the seventh form; the later family's looks); each row that meets fmt, with fmt's text TOLD by the authors' own Lean function (tested against real Go, not proved from fmt's source: count such statements apart). THE CARD IS WHAT COUNTS. Prove the row's statement (the work); the ties are given (YtnbocmnfcgjimaaDoorTie.lean); close each card by the builder's one call (the guide's Derived/Test/ToyasCard.lean, 'card_holds'). Laid BY PROGRAM, IN A SANDBOX (cutbox-door.mjs). By AI agents, Wed Nov 11 2026. No macro, syntax, notation, axiom, sorry.
-/
import Derived.Test.YtnbocmnfcgjimaaDoorRows
import GoSem.ClaimSeven
namespace Go.Proofs.YtnbocmnfcgjimaaDoor
namespace Rows

/-- THE TIED CARD OF 'nacrelaw06.AddrOf'. -/
def addrOfCard : Claim7 := { stood := { row := addrOfRow, standIns := [], harness := (true, "892225b44b1c5bb3474dfb00592f3f558edfb3302f2495f6808c1f8e90b6274f"), looks := false }, kinds := [], alts := [], laidByText := true, laidKinds := [.data], laidTests := true, laidLooks := .later }
def AddrOfCardSaid : Prop := Claim7.holds Tryd.pinned (.plain (OpenSpec.ofChange addrOfSpec)) addrOfCard

/-- THE TIED CARD OF 'nacrelaw06.AddrSlots'. -/
def addrSlotsCard : Claim7 := { stood := { row := addrSlotsRow, standIns := [], harness := (true, "892225b44b1c5bb3474dfb00592f3f558edfb3302f2495f6808c1f8e90b6274f"), looks := false }, kinds := [], alts := [], laidByText := true, laidKinds := [.data], laidTests := true, laidLooks := .later }
def AddrSlotsCardSaid : Prop := Claim7.holds Tryd.pinned (.plain (OpenSpec.ofChange addrSlotsSpec)) addrSlotsCard

/-- THE TIED CARD OF 'nacrelaw06.AddrBack'. -/
def addrBackCard : Claim7 := { stood := { row := addrBackRow, standIns := [], harness := (true, "892225b44b1c5bb3474dfb00592f3f558edfb3302f2495f6808c1f8e90b6274f"), looks := false }, kinds := [], alts := [], laidByText := true, laidKinds := [.data], laidTests := true, laidLooks := .later }
def AddrBackCardSaid : Prop := Claim7.holds Tryd.pinned (.plain (OpenSpec.ofChange addrBackSpec)) addrBackCard

/-- THE TIED CARD OF 'nacrelaw06.AddrApart'. -/
def addrApartCard : Claim7 := { stood := { row := addrApartRow, standIns := [], harness := (true, "892225b44b1c5bb3474dfb00592f3f558edfb3302f2495f6808c1f8e90b6274f"), looks := false }, kinds := [], alts := [], laidByText := true, laidKinds := [.data], laidTests := true, laidLooks := .later }
def AddrApartCardSaid : Prop := Claim7.holds Tryd.pinned (.plain (OpenSpec.ofChange addrApartSpec)) addrApartCard

/-- THE SECOND FORM's CARD OF 'nacrelaw06.AddrOf'. -/
def addrOfUptoCard : Claim7 := { stood := { row := addrOfUptoRow, standIns := [], harness := (true, "892225b44b1c5bb3474dfb00592f3f558edfb3302f2495f6808c1f8e90b6274f"), looks := false }, kinds := [], alts := [], laidByText := true, laidKinds := [.data], laidTests := true, laidLooks := .later }
def AddrOfUptoCardSaid : Prop := Claim7.holds Tryd.pinned (.plain (OpenSpec.upto addrOfSpec)) addrOfUptoCard

/-- THE SECOND FORM's CARD OF 'nacrelaw06.AddrSlots'. -/
def addrSlotsUptoCard : Claim7 := { stood := { row := addrSlotsUptoRow, standIns := [], harness := (true, "892225b44b1c5bb3474dfb00592f3f558edfb3302f2495f6808c1f8e90b6274f"), looks := false }, kinds := [], alts := [], laidByText := true, laidKinds := [.data], laidTests := true, laidLooks := .later }
def AddrSlotsUptoCardSaid : Prop := Claim7.holds Tryd.pinned (.plain (OpenSpec.upto addrSlotsSpec)) addrSlotsUptoCard

/-- THE SECOND FORM's CARD OF 'nacrelaw06.AddrBack'. -/
def addrBackUptoCard : Claim7 := { stood := { row := addrBackUptoRow, standIns := [], harness := (true, "892225b44b1c5bb3474dfb00592f3f558edfb3302f2495f6808c1f8e90b6274f"), looks := false }, kinds := [], alts := [], laidByText := true, laidKinds := [.data], laidTests := true, laidLooks := .later }
def AddrBackUptoCardSaid : Prop := Claim7.holds Tryd.pinned (.plain (OpenSpec.upto addrBackSpec)) addrBackUptoCard

/-- THE SECOND FORM's CARD OF 'nacrelaw06.AddrApart'. -/
def addrApartUptoCard : Claim7 := { stood := { row := addrApartUptoRow, standIns := [], harness := (true, "892225b44b1c5bb3474dfb00592f3f558edfb3302f2495f6808c1f8e90b6274f"), looks := false }, kinds := [], alts := [], laidByText := true, laidKinds := [.data], laidTests := true, laidLooks := .later }
def AddrApartUptoCardSaid : Prop := Claim7.holds Tryd.pinned (.plain (OpenSpec.upto addrApartSpec)) addrApartUptoCard
end Rows
end Go.Proofs.YtnbocmnfcgjimaaDoor
