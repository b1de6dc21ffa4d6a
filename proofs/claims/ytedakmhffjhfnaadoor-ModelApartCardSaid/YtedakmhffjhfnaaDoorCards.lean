/-
  DERIVED. GIVEN WITH THE SEED: THE CARDS: each row of YtedakmhffjhfnaaDoorRows.lean that lists a variable, with what it lists TIED to the program's text (the seventh form; the later family's looks); each row that meets fmt, with fmt's text TOLD by the authors' own Lean function (tested against real Go, not proved from fmt's source: count such statements apart). THE CARD IS WHAT COUNTS. Prove the row's statement (the work); the ties are given (YtedakmhffjhfnaaDoorTie.lean); close each card by the builder's one call (the guide's Derived/Test/ToyasCard.lean, 'card_holds'). Laid BY PROGRAM, IN A SANDBOX (cutbox-door.mjs). By AI agents, Wed Nov 11 2026. No macro, syntax, notation, axiom, sorry.
-/
import Derived.Test.YtedakmhffjhfnaaDoorRows
import GoSem.ClaimSeven
namespace Go.Proofs.YtedakmhffjhfnaaDoor
namespace Rows

/-- THE TIED CARD OF 'nacrelaw26.ModelAllows'. -/
def modelAllowsCard : Claim7 := { stood := { row := modelAllowsRow, standIns := [], harness := (true, "49012d4d055f48224ecb567dd75d4214dcc058eccd92be6ca18365e360478f6c"), looks := false }, kinds := [], alts := [], laidByText := true, laidKinds := [.data], laidTests := true, laidLooks := .later }
def ModelAllowsCardSaid : Prop := Claim7.holds Tryd.pinned (.plain (OpenSpec.ofChange modelAllowsSpec)) modelAllowsCard

/-- THE TIED CARD OF 'nacrelaw26.ModelRuns'. -/
def modelRunsCard : Claim7 := { stood := { row := modelRunsRow, standIns := [], harness := (true, "49012d4d055f48224ecb567dd75d4214dcc058eccd92be6ca18365e360478f6c"), looks := false }, kinds := [], alts := [], laidByText := true, laidKinds := [.data], laidTests := true, laidLooks := .later }
def ModelRunsCardSaid : Prop := Claim7.holds Tryd.pinned (.plain (OpenSpec.ofChange modelRunsSpec)) modelRunsCard

/-- THE TIED CARD OF 'nacrelaw26.ModelApart'. -/
def modelApartCard : Claim7 := { stood := { row := modelApartRow, standIns := [], harness := (true, "49012d4d055f48224ecb567dd75d4214dcc058eccd92be6ca18365e360478f6c"), looks := false }, kinds := [], alts := [], laidByText := true, laidKinds := [.data], laidTests := true, laidLooks := .later }
def ModelApartCardSaid : Prop := Claim7.holds Tryd.pinned (.plain (OpenSpec.ofChange modelApartSpec)) modelApartCard

/-- THE SECOND FORM's CARD OF 'nacrelaw26.ModelAllows'. -/
def modelAllowsUptoCard : Claim7 := { stood := { row := modelAllowsUptoRow, standIns := [], harness := (true, "49012d4d055f48224ecb567dd75d4214dcc058eccd92be6ca18365e360478f6c"), looks := false }, kinds := [], alts := [], laidByText := true, laidKinds := [.data], laidTests := true, laidLooks := .later }
def ModelAllowsUptoCardSaid : Prop := Claim7.holds Tryd.pinned (.plain (OpenSpec.upto modelAllowsSpec)) modelAllowsUptoCard

/-- THE SECOND FORM's CARD OF 'nacrelaw26.ModelRuns'. -/
def modelRunsUptoCard : Claim7 := { stood := { row := modelRunsUptoRow, standIns := [], harness := (true, "49012d4d055f48224ecb567dd75d4214dcc058eccd92be6ca18365e360478f6c"), looks := false }, kinds := [], alts := [], laidByText := true, laidKinds := [.data], laidTests := true, laidLooks := .later }
def ModelRunsUptoCardSaid : Prop := Claim7.holds Tryd.pinned (.plain (OpenSpec.upto modelRunsSpec)) modelRunsUptoCard

/-- THE SECOND FORM's CARD OF 'nacrelaw26.ModelApart'. -/
def modelApartUptoCard : Claim7 := { stood := { row := modelApartUptoRow, standIns := [], harness := (true, "49012d4d055f48224ecb567dd75d4214dcc058eccd92be6ca18365e360478f6c"), looks := false }, kinds := [], alts := [], laidByText := true, laidKinds := [.data], laidTests := true, laidLooks := .later }
def ModelApartUptoCardSaid : Prop := Claim7.holds Tryd.pinned (.plain (OpenSpec.upto modelApartSpec)) modelApartUptoCard
end Rows
end Go.Proofs.YtedakmhffjhfnaaDoor
