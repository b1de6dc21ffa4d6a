/-
  DERIVED. GIVEN WITH THE SEED: THE CARDS: each row of YtjjfcaliippgpaaGreatDoorRows.lean that lists a variable, with what it lists TIED to the program's text (the seventh form; the later family's looks); each row that meets fmt, with fmt's text TOLD by the authors' own Lean function (tested against real Go, not proved from fmt's source: count such statements apart). THE CARD IS WHAT COUNTS. Prove the row's statement (the work); the ties are given (YtjjfcaliippgpaaGreatDoorTie.lean); close each card by the builder's one call (the guide's Derived/Test/ToyasCard.lean, 'card_holds'). Laid BY PROGRAM, IN A SANDBOX (cutbox-door.mjs). By AI agents, Wed Nov 11 2026. No macro, syntax, notation, axiom, sorry.
-/
import Derived.Test.YtjjfcaliippgpaaGreatDoorRows
import GoSem.ClaimSeven
namespace Go.Proofs.YtjjfcaliippgpaaGreatDoor
namespace Rows

/-- THE TIED CARD OF 'nacrelaw18.SmallAllocs'. -/
def smallAllocsCard : Claim7 := { stood := { row := smallAllocsRow, standIns := [], harness := (true, "f7c1d8182a5a4064018f262fc4be1f5d94bf0b6c7964f3ff2cd39be11ca2b138"), looks := false }, kinds := [], alts := [], laidByText := true, laidKinds := [.data], laidTests := true, laidLooks := .later }
def SmallAllocsCardSaid : Prop := Claim7.holds Tryz.pinned (.plain (OpenSpec.ofChange smallAllocsSpec)) smallAllocsCard

/-- THE TIED CARD OF 'nacrelaw18.SmallFrees'. -/
def smallFreesCard : Claim7 := { stood := { row := smallFreesRow, standIns := [], harness := (true, "f7c1d8182a5a4064018f262fc4be1f5d94bf0b6c7964f3ff2cd39be11ca2b138"), looks := false }, kinds := [], alts := [], laidByText := true, laidKinds := [.data], laidTests := true, laidLooks := .later }
def SmallFreesCardSaid : Prop := Claim7.holds Tryz.pinned (.plain (OpenSpec.ofChange smallFreesSpec)) smallFreesCard

/-- THE TIED CARD OF 'nacrelaw18.SmallKeeps'. -/
def smallKeepsCard : Claim7 := { stood := { row := smallKeepsRow, standIns := [], harness := (true, "f7c1d8182a5a4064018f262fc4be1f5d94bf0b6c7964f3ff2cd39be11ca2b138"), looks := false }, kinds := [], alts := [], laidByText := true, laidKinds := [.data], laidTests := true, laidLooks := .later }
def SmallKeepsCardSaid : Prop := Claim7.holds Tryz.pinned (.plain (OpenSpec.ofChange smallKeepsSpec)) smallKeepsCard

/-- THE TIED CARD OF 'nacrelaw18.SmallFlushes'. -/
def smallFlushesCard : Claim7 := { stood := { row := smallFlushesRow, standIns := [], harness := (true, "f7c1d8182a5a4064018f262fc4be1f5d94bf0b6c7964f3ff2cd39be11ca2b138"), looks := false }, kinds := [], alts := [], laidByText := true, laidKinds := [.data], laidTests := true, laidLooks := .later }
def SmallFlushesCardSaid : Prop := Claim7.holds Tryz.pinned (.plain (OpenSpec.ofChange smallFlushesSpec)) smallFlushesCard

/-- THE SECOND FORM's CARD OF 'nacrelaw18.SmallAllocs'. -/
def smallAllocsUptoCard : Claim7 := { stood := { row := smallAllocsUptoRow, standIns := [], harness := (true, "f7c1d8182a5a4064018f262fc4be1f5d94bf0b6c7964f3ff2cd39be11ca2b138"), looks := false }, kinds := [], alts := [], laidByText := true, laidKinds := [.data], laidTests := true, laidLooks := .later }
def SmallAllocsUptoCardSaid : Prop := Claim7.holds Tryz.pinned (.plain (OpenSpec.upto smallAllocsSpec)) smallAllocsUptoCard

/-- THE SECOND FORM's CARD OF 'nacrelaw18.SmallFrees'. -/
def smallFreesUptoCard : Claim7 := { stood := { row := smallFreesUptoRow, standIns := [], harness := (true, "f7c1d8182a5a4064018f262fc4be1f5d94bf0b6c7964f3ff2cd39be11ca2b138"), looks := false }, kinds := [], alts := [], laidByText := true, laidKinds := [.data], laidTests := true, laidLooks := .later }
def SmallFreesUptoCardSaid : Prop := Claim7.holds Tryz.pinned (.plain (OpenSpec.upto smallFreesSpec)) smallFreesUptoCard

/-- THE SECOND FORM's CARD OF 'nacrelaw18.SmallKeeps'. -/
def smallKeepsUptoCard : Claim7 := { stood := { row := smallKeepsUptoRow, standIns := [], harness := (true, "f7c1d8182a5a4064018f262fc4be1f5d94bf0b6c7964f3ff2cd39be11ca2b138"), looks := false }, kinds := [], alts := [], laidByText := true, laidKinds := [.data], laidTests := true, laidLooks := .later }
def SmallKeepsUptoCardSaid : Prop := Claim7.holds Tryz.pinned (.plain (OpenSpec.upto smallKeepsSpec)) smallKeepsUptoCard

/-- THE SECOND FORM's CARD OF 'nacrelaw18.SmallFlushes'. -/
def smallFlushesUptoCard : Claim7 := { stood := { row := smallFlushesUptoRow, standIns := [], harness := (true, "f7c1d8182a5a4064018f262fc4be1f5d94bf0b6c7964f3ff2cd39be11ca2b138"), looks := false }, kinds := [], alts := [], laidByText := true, laidKinds := [.data], laidTests := true, laidLooks := .later }
def SmallFlushesUptoCardSaid : Prop := Claim7.holds Tryz.pinned (.plain (OpenSpec.upto smallFlushesSpec)) smallFlushesUptoCard
end Rows
end Go.Proofs.YtjjfcaliippgpaaGreatDoor
