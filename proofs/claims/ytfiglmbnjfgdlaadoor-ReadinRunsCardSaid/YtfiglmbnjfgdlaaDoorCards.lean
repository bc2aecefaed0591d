/-
  DERIVED. GIVEN WITH THE SEED: THE CARDS: each row of YtfiglmbnjfgdlaaDoorRows.lean that lists a variable, with what it lists TIED to the program's text (the seventh form; the later family's looks); each row that meets fmt, with fmt's text TOLD by the authors' own Lean function (tested against real Go, not proved from fmt's source: count such statements apart). THE CARD IS WHAT COUNTS. Prove the row's statement (the work); the ties are given (YtfiglmbnjfgdlaaDoorTie.lean); close each card by the builder's one call (the guide's Derived/Test/ToyasCard.lean, 'card_holds'). Laid BY PROGRAM, IN A SANDBOX (cutbox-door.mjs). By AI agents, Wed Nov 11 2026. No macro, syntax, notation, axiom, sorry.
-/
import Derived.Test.YtfiglmbnjfgdlaaDoorRows
import GoSem.ClaimSeven
namespace Go.Proofs.YtfiglmbnjfgdlaaDoor
namespace Rows

/-- THE TIED CARD OF 'headgatelaw21.ReadinSteps'. -/
def readinStepsCard : Claim7 := { stood := { row := readinStepsRow, standIns := [], harness := (true, "b5ef5539cf18764dfd90c5416ae8d6a7a65b638fae32f11c5d202ef9a6cfa97e"), looks := false }, kinds := [], alts := [], laidByText := true, laidKinds := [.data], laidTests := true, laidLooks := .later }
def ReadinStepsCardSaid : Prop := Claim7.holds Tryd.pinned (.plain (OpenSpec.ofChange readinStepsSpec)) readinStepsCard

/-- THE TIED CARD OF 'headgatelaw21.ReadinRuns'. -/
def readinRunsCard : Claim7 := { stood := { row := readinRunsRow, standIns := [], harness := (true, "b5ef5539cf18764dfd90c5416ae8d6a7a65b638fae32f11c5d202ef9a6cfa97e"), looks := false }, kinds := [], alts := [], laidByText := true, laidKinds := [.data], laidTests := true, laidLooks := .later }
def ReadinRunsCardSaid : Prop := Claim7.holds Tryd.pinned (.plain (OpenSpec.ofChange readinRunsSpec)) readinRunsCard

/-- THE TIED CARD OF 'headgatelaw21.ReadinKnown'. -/
def readinKnownCard : Claim7 := { stood := { row := readinKnownRow, standIns := [], harness := (true, "b5ef5539cf18764dfd90c5416ae8d6a7a65b638fae32f11c5d202ef9a6cfa97e"), looks := false }, kinds := [], alts := [], laidByText := true, laidKinds := [.data], laidTests := true, laidLooks := .later }
def ReadinKnownCardSaid : Prop := Claim7.holds Tryd.pinned (.plain (OpenSpec.ofChange readinKnownSpec)) readinKnownCard

/-- THE TIED CARD OF 'headgatelaw21.ReadinFrames'. -/
def readinFramesCard : Claim7 := { stood := { row := readinFramesRow, standIns := [], harness := (true, "b5ef5539cf18764dfd90c5416ae8d6a7a65b638fae32f11c5d202ef9a6cfa97e"), looks := false }, kinds := [], alts := [], laidByText := true, laidKinds := [.data], laidTests := true, laidLooks := .later }
def ReadinFramesCardSaid : Prop := Claim7.holds Tryd.pinned (.plain (OpenSpec.ofChange readinFramesSpec)) readinFramesCard

/-- THE TIED CARD OF 'headgatelaw21.ReadinArrives'. -/
def readinArrivesCard : Claim7 := { stood := { row := readinArrivesRow, standIns := [], harness := (true, "b5ef5539cf18764dfd90c5416ae8d6a7a65b638fae32f11c5d202ef9a6cfa97e"), looks := false }, kinds := [], alts := [], laidByText := true, laidKinds := [.data], laidTests := true, laidLooks := .later }
def ReadinArrivesCardSaid : Prop := Claim7.holds Tryd.pinned (.plain (OpenSpec.ofChange readinArrivesSpec)) readinArrivesCard

/-- THE SECOND FORM's CARD OF 'headgatelaw21.ReadinSteps'. -/
def readinStepsUptoCard : Claim7 := { stood := { row := readinStepsUptoRow, standIns := [], harness := (true, "b5ef5539cf18764dfd90c5416ae8d6a7a65b638fae32f11c5d202ef9a6cfa97e"), looks := false }, kinds := [], alts := [], laidByText := true, laidKinds := [.data], laidTests := true, laidLooks := .later }
def ReadinStepsUptoCardSaid : Prop := Claim7.holds Tryd.pinned (.plain (OpenSpec.upto readinStepsSpec)) readinStepsUptoCard

/-- THE SECOND FORM's CARD OF 'headgatelaw21.ReadinRuns'. -/
def readinRunsUptoCard : Claim7 := { stood := { row := readinRunsUptoRow, standIns := [], harness := (true, "b5ef5539cf18764dfd90c5416ae8d6a7a65b638fae32f11c5d202ef9a6cfa97e"), looks := false }, kinds := [], alts := [], laidByText := true, laidKinds := [.data], laidTests := true, laidLooks := .later }
def ReadinRunsUptoCardSaid : Prop := Claim7.holds Tryd.pinned (.plain (OpenSpec.upto readinRunsSpec)) readinRunsUptoCard

/-- THE SECOND FORM's CARD OF 'headgatelaw21.ReadinKnown'. -/
def readinKnownUptoCard : Claim7 := { stood := { row := readinKnownUptoRow, standIns := [], harness := (true, "b5ef5539cf18764dfd90c5416ae8d6a7a65b638fae32f11c5d202ef9a6cfa97e"), looks := false }, kinds := [], alts := [], laidByText := true, laidKinds := [.data], laidTests := true, laidLooks := .later }
def ReadinKnownUptoCardSaid : Prop := Claim7.holds Tryd.pinned (.plain (OpenSpec.upto readinKnownSpec)) readinKnownUptoCard

/-- THE SECOND FORM's CARD OF 'headgatelaw21.ReadinFrames'. -/
def readinFramesUptoCard : Claim7 := { stood := { row := readinFramesUptoRow, standIns := [], harness := (true, "b5ef5539cf18764dfd90c5416ae8d6a7a65b638fae32f11c5d202ef9a6cfa97e"), looks := false }, kinds := [], alts := [], laidByText := true, laidKinds := [.data], laidTests := true, laidLooks := .later }
def ReadinFramesUptoCardSaid : Prop := Claim7.holds Tryd.pinned (.plain (OpenSpec.upto readinFramesSpec)) readinFramesUptoCard

/-- THE SECOND FORM's CARD OF 'headgatelaw21.ReadinArrives'. -/
def readinArrivesUptoCard : Claim7 := { stood := { row := readinArrivesUptoRow, standIns := [], harness := (true, "b5ef5539cf18764dfd90c5416ae8d6a7a65b638fae32f11c5d202ef9a6cfa97e"), looks := false }, kinds := [], alts := [], laidByText := true, laidKinds := [.data], laidTests := true, laidLooks := .later }
def ReadinArrivesUptoCardSaid : Prop := Claim7.holds Tryd.pinned (.plain (OpenSpec.upto readinArrivesSpec)) readinArrivesUptoCard
end Rows
end Go.Proofs.YtfiglmbnjfgdlaaDoor
