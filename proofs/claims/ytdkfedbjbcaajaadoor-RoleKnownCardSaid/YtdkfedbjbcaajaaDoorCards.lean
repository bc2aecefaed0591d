/-
  DERIVED. GIVEN WITH THE SEED: THE CARDS: each row of YtdkfedbjbcaajaaDoorRows.lean that lists a variable, with what it lists TIED to the program's text (the seventh form; the later family's looks); each row that meets fmt, with fmt's text TOLD by the authors' own Lean function (tested against real Go, not proved from fmt's source: count such statements apart). THE CARD IS WHAT COUNTS. Prove the row's statement (the work); the ties are given (YtdkfedbjbcaajaaDoorTie.lean); close each card by the builder's one call (the guide's Derived/Test/ToyasCard.lean, 'card_holds'). Laid BY PROGRAM, IN A SANDBOX (cutbox-door.mjs). By AI agents, Wed Nov 11 2026. No macro, syntax, notation, axiom, sorry.
-/
import Derived.Test.YtdkfedbjbcaajaaDoorRows
import GoSem.ClaimSeven
namespace Go.Proofs.YtdkfedbjbcaajaaDoor
namespace Rows

/-- THE TIED CARD OF 'headgatelaw16.RoleMays'. -/
def roleMaysCard : Claim7 := { stood := { row := roleMaysRow, standIns := [], harness := (true, "287e5314b76e50b414cdb3966e487281b907fe89659c3823e58d3fbe672a5e30"), looks := false }, kinds := [], alts := [], laidByText := true, laidKinds := [.data], laidTests := true, laidLooks := .later }
def RoleMaysCardSaid : Prop := Claim7.holds Tryd.pinned (.plain (OpenSpec.ofChange roleMaysSpec)) roleMaysCard

/-- THE TIED CARD OF 'headgatelaw16.RoleChanges'. -/
def roleChangesCard : Claim7 := { stood := { row := roleChangesRow, standIns := [], harness := (true, "287e5314b76e50b414cdb3966e487281b907fe89659c3823e58d3fbe672a5e30"), looks := false }, kinds := [], alts := [], laidByText := true, laidKinds := [.data], laidTests := true, laidLooks := .later }
def RoleChangesCardSaid : Prop := Claim7.holds Tryd.pinned (.plain (OpenSpec.ofChange roleChangesSpec)) roleChangesCard

/-- THE TIED CARD OF 'headgatelaw16.RoleLooks'. -/
def roleLooksCard : Claim7 := { stood := { row := roleLooksRow, standIns := [], harness := (true, "287e5314b76e50b414cdb3966e487281b907fe89659c3823e58d3fbe672a5e30"), looks := false }, kinds := [], alts := [], laidByText := true, laidKinds := [.data], laidTests := true, laidLooks := .later }
def RoleLooksCardSaid : Prop := Claim7.holds Tryd.pinned (.plain (OpenSpec.ofChange roleLooksSpec)) roleLooksCard

/-- THE TIED CARD OF 'headgatelaw16.RoleParses'. -/
def roleParsesCard : Claim7 := { stood := { row := roleParsesRow, standIns := [], harness := (true, "287e5314b76e50b414cdb3966e487281b907fe89659c3823e58d3fbe672a5e30"), looks := false }, kinds := [], alts := [], laidByText := true, laidKinds := [.data], laidTests := true, laidLooks := .later }
def RoleParsesCardSaid : Prop := Claim7.holds Tryd.pinned (.plain (OpenSpec.ofChange roleParsesSpec)) roleParsesCard

/-- THE TIED CARD OF 'headgatelaw16.RoleKnown'. -/
def roleKnownCard : Claim7 := { stood := { row := roleKnownRow, standIns := [], harness := (true, "287e5314b76e50b414cdb3966e487281b907fe89659c3823e58d3fbe672a5e30"), looks := false }, kinds := [], alts := [], laidByText := true, laidKinds := [.data], laidTests := true, laidLooks := .later }
def RoleKnownCardSaid : Prop := Claim7.holds Tryd.pinned (.plain (OpenSpec.ofChange roleKnownSpec)) roleKnownCard

/-- THE TIED CARD OF 'headgatelaw16.RoleCounts'. -/
def roleCountsCard : Claim7 := { stood := { row := roleCountsRow, standIns := [], harness := (true, "287e5314b76e50b414cdb3966e487281b907fe89659c3823e58d3fbe672a5e30"), looks := false }, kinds := [], alts := [], laidByText := true, laidKinds := [.data], laidTests := true, laidLooks := .later }
def RoleCountsCardSaid : Prop := Claim7.holds Tryd.pinned (.plain (OpenSpec.ofChange roleCountsSpec)) roleCountsCard

/-- THE TIED CARD OF 'headgatelaw16.RoleBack'. -/
def roleBackCard : Claim7 := { stood := { row := roleBackRow, standIns := [], harness := (true, "287e5314b76e50b414cdb3966e487281b907fe89659c3823e58d3fbe672a5e30"), looks := false }, kinds := [], alts := [], laidByText := true, laidKinds := [.data], laidTests := true, laidLooks := .later }
def RoleBackCardSaid : Prop := Claim7.holds Tryd.pinned (.plain (OpenSpec.ofChange roleBackSpec)) roleBackCard

/-- THE TIED CARD OF 'headgatelaw16.RoleWays'. -/
def roleWaysCard : Claim7 := { stood := { row := roleWaysRow, standIns := [], harness := (true, "287e5314b76e50b414cdb3966e487281b907fe89659c3823e58d3fbe672a5e30"), looks := false }, kinds := [], alts := [], laidByText := true, laidKinds := [.data], laidTests := true, laidLooks := .later }
def RoleWaysCardSaid : Prop := Claim7.holds Tryd.pinned (.plain (OpenSpec.ofChange roleWaysSpec)) roleWaysCard

/-- THE TIED CARD OF 'headgatelaw16.RoleSwaps'. -/
def roleSwapsCard : Claim7 := { stood := { row := roleSwapsRow, standIns := [], harness := (true, "287e5314b76e50b414cdb3966e487281b907fe89659c3823e58d3fbe672a5e30"), looks := false }, kinds := [], alts := [], laidByText := true, laidKinds := [.data], laidTests := true, laidLooks := .later }
def RoleSwapsCardSaid : Prop := Claim7.holds Tryd.pinned (.plain (OpenSpec.ofChange roleSwapsSpec)) roleSwapsCard

/-- THE SECOND FORM's CARD OF 'headgatelaw16.RoleMays'. -/
def roleMaysUptoCard : Claim7 := { stood := { row := roleMaysUptoRow, standIns := [], harness := (true, "287e5314b76e50b414cdb3966e487281b907fe89659c3823e58d3fbe672a5e30"), looks := false }, kinds := [], alts := [], laidByText := true, laidKinds := [.data], laidTests := true, laidLooks := .later }
def RoleMaysUptoCardSaid : Prop := Claim7.holds Tryd.pinned (.plain (OpenSpec.upto roleMaysSpec)) roleMaysUptoCard

/-- THE SECOND FORM's CARD OF 'headgatelaw16.RoleChanges'. -/
def roleChangesUptoCard : Claim7 := { stood := { row := roleChangesUptoRow, standIns := [], harness := (true, "287e5314b76e50b414cdb3966e487281b907fe89659c3823e58d3fbe672a5e30"), looks := false }, kinds := [], alts := [], laidByText := true, laidKinds := [.data], laidTests := true, laidLooks := .later }
def RoleChangesUptoCardSaid : Prop := Claim7.holds Tryd.pinned (.plain (OpenSpec.upto roleChangesSpec)) roleChangesUptoCard

/-- THE SECOND FORM's CARD OF 'headgatelaw16.RoleLooks'. -/
def roleLooksUptoCard : Claim7 := { stood := { row := roleLooksUptoRow, standIns := [], harness := (true, "287e5314b76e50b414cdb3966e487281b907fe89659c3823e58d3fbe672a5e30"), looks := false }, kinds := [], alts := [], laidByText := true, laidKinds := [.data], laidTests := true, laidLooks := .later }
def RoleLooksUptoCardSaid : Prop := Claim7.holds Tryd.pinned (.plain (OpenSpec.upto roleLooksSpec)) roleLooksUptoCard

/-- THE SECOND FORM's CARD OF 'headgatelaw16.RoleParses'. -/
def roleParsesUptoCard : Claim7 := { stood := { row := roleParsesUptoRow, standIns := [], harness := (true, "287e5314b76e50b414cdb3966e487281b907fe89659c3823e58d3fbe672a5e30"), looks := false }, kinds := [], alts := [], laidByText := true, laidKinds := [.data], laidTests := true, laidLooks := .later }
def RoleParsesUptoCardSaid : Prop := Claim7.holds Tryd.pinned (.plain (OpenSpec.upto roleParsesSpec)) roleParsesUptoCard

/-- THE SECOND FORM's CARD OF 'headgatelaw16.RoleKnown'. -/
def roleKnownUptoCard : Claim7 := { stood := { row := roleKnownUptoRow, standIns := [], harness := (true, "287e5314b76e50b414cdb3966e487281b907fe89659c3823e58d3fbe672a5e30"), looks := false }, kinds := [], alts := [], laidByText := true, laidKinds := [.data], laidTests := true, laidLooks := .later }
def RoleKnownUptoCardSaid : Prop := Claim7.holds Tryd.pinned (.plain (OpenSpec.upto roleKnownSpec)) roleKnownUptoCard

/-- THE SECOND FORM's CARD OF 'headgatelaw16.RoleCounts'. -/
def roleCountsUptoCard : Claim7 := { stood := { row := roleCountsUptoRow, standIns := [], harness := (true, "287e5314b76e50b414cdb3966e487281b907fe89659c3823e58d3fbe672a5e30"), looks := false }, kinds := [], alts := [], laidByText := true, laidKinds := [.data], laidTests := true, laidLooks := .later }
def RoleCountsUptoCardSaid : Prop := Claim7.holds Tryd.pinned (.plain (OpenSpec.upto roleCountsSpec)) roleCountsUptoCard

/-- THE SECOND FORM's CARD OF 'headgatelaw16.RoleBack'. -/
def roleBackUptoCard : Claim7 := { stood := { row := roleBackUptoRow, standIns := [], harness := (true, "287e5314b76e50b414cdb3966e487281b907fe89659c3823e58d3fbe672a5e30"), looks := false }, kinds := [], alts := [], laidByText := true, laidKinds := [.data], laidTests := true, laidLooks := .later }
def RoleBackUptoCardSaid : Prop := Claim7.holds Tryd.pinned (.plain (OpenSpec.upto roleBackSpec)) roleBackUptoCard

/-- THE SECOND FORM's CARD OF 'headgatelaw16.RoleWays'. -/
def roleWaysUptoCard : Claim7 := { stood := { row := roleWaysUptoRow, standIns := [], harness := (true, "287e5314b76e50b414cdb3966e487281b907fe89659c3823e58d3fbe672a5e30"), looks := false }, kinds := [], alts := [], laidByText := true, laidKinds := [.data], laidTests := true, laidLooks := .later }
def RoleWaysUptoCardSaid : Prop := Claim7.holds Tryd.pinned (.plain (OpenSpec.upto roleWaysSpec)) roleWaysUptoCard

/-- THE SECOND FORM's CARD OF 'headgatelaw16.RoleSwaps'. -/
def roleSwapsUptoCard : Claim7 := { stood := { row := roleSwapsUptoRow, standIns := [], harness := (true, "287e5314b76e50b414cdb3966e487281b907fe89659c3823e58d3fbe672a5e30"), looks := false }, kinds := [], alts := [], laidByText := true, laidKinds := [.data], laidTests := true, laidLooks := .later }
def RoleSwapsUptoCardSaid : Prop := Claim7.holds Tryd.pinned (.plain (OpenSpec.upto roleSwapsSpec)) roleSwapsUptoCard
end Rows
end Go.Proofs.YtdkfedbjbcaajaaDoor
