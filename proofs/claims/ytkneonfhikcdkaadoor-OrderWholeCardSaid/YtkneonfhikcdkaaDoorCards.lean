/-
  DERIVED. GIVEN WITH THE SEED: THE CARDS: each row of YtkneonfhikcdkaaDoorRows.lean that lists a variable, with what it lists TIED to the program's text (the seventh form; the later family's looks); each row that meets fmt, with fmt's text TOLD by the authors' own Lean function (tested against real Go, not proved from fmt's source: count such statements apart). THE CARD IS WHAT COUNTS. Prove the row's statement (the work); the ties are given (YtkneonfhikcdkaaDoorTie.lean); close each card by the builder's one call (the guide's Derived/Test/ToyasCard.lean, 'card_holds'). Laid BY PROGRAM, IN A SANDBOX (cutbox-door.mjs). By AI agents, Wed Nov 11 2026. No macro, syntax, notation, axiom, sorry.
-/
import Derived.Test.YtkneonfhikcdkaaDoorRows
import GoSem.ClaimSeven
namespace Go.Proofs.YtkneonfhikcdkaaDoor
namespace Rows

/-- THE TIED CARD OF 'headgatelaw08.OrderSizes'. -/
def orderSizesCard : Claim7 := { stood := { row := orderSizesRow, standIns := [], harness := (true, "988024d6e4608fed87cd982d47be9e373d0a67f5975c058c1e8c7637b170ad91"), looks := false }, kinds := [], alts := [], laidByText := true, laidKinds := [.data, .data], laidTests := true, laidLooks := .later }
def OrderSizesCardSaid : Prop := Claim7.holds Tryd.pinned (.plain (OpenSpec.ofChange orderSizesSpec)) orderSizesCard

/-- THE TIED CARD OF 'headgatelaw08.OrderBlocks'. -/
def orderBlocksCard : Claim7 := { stood := { row := orderBlocksRow, standIns := [], harness := (true, "988024d6e4608fed87cd982d47be9e373d0a67f5975c058c1e8c7637b170ad91"), looks := false }, kinds := [], alts := [], laidByText := true, laidKinds := [.data, .data], laidTests := true, laidLooks := .later }
def OrderBlocksCardSaid : Prop := Claim7.holds Tryd.pinned (.plain (OpenSpec.ofChange orderBlocksSpec)) orderBlocksCard

/-- THE TIED CARD OF 'headgatelaw08.OrderCuts'. -/
def orderCutsCard : Claim7 := { stood := { row := orderCutsRow, standIns := [], harness := (true, "988024d6e4608fed87cd982d47be9e373d0a67f5975c058c1e8c7637b170ad91"), looks := false }, kinds := [], alts := [], laidByText := true, laidKinds := [.data, .data], laidTests := true, laidLooks := .later }
def OrderCutsCardSaid : Prop := Claim7.holds Tryd.pinned (.plain (OpenSpec.ofChange orderCutsSpec)) orderCutsCard

/-- THE TIED CARD OF 'headgatelaw08.OrderLists'. -/
def orderListsCard : Claim7 := { stood := { row := orderListsRow, standIns := [], harness := (true, "988024d6e4608fed87cd982d47be9e373d0a67f5975c058c1e8c7637b170ad91"), looks := false }, kinds := [], alts := [], laidByText := true, laidKinds := [.data, .data], laidTests := true, laidLooks := .later }
def OrderListsCardSaid : Prop := Claim7.holds Tryd.pinned (.plain (OpenSpec.ofChange orderListsSpec)) orderListsCard

/-- THE TIED CARD OF 'headgatelaw08.OrderKnown'. -/
def orderKnownCard : Claim7 := { stood := { row := orderKnownRow, standIns := [], harness := (true, "988024d6e4608fed87cd982d47be9e373d0a67f5975c058c1e8c7637b170ad91"), looks := false }, kinds := [], alts := [], laidByText := true, laidKinds := [.data, .data], laidTests := true, laidLooks := .later }
def OrderKnownCardSaid : Prop := Claim7.holds Tryd.pinned (.plain (OpenSpec.ofChange orderKnownSpec)) orderKnownCard

/-- THE TIED CARD OF 'headgatelaw08.OrderPowers'. -/
def orderPowersCard : Claim7 := { stood := { row := orderPowersRow, standIns := [], harness := (true, "988024d6e4608fed87cd982d47be9e373d0a67f5975c058c1e8c7637b170ad91"), looks := false }, kinds := [], alts := [], laidByText := true, laidKinds := [.data, .data], laidTests := true, laidLooks := .later }
def OrderPowersCardSaid : Prop := Claim7.holds Tryd.pinned (.plain (OpenSpec.ofChange orderPowersSpec)) orderPowersCard

/-- THE TIED CARD OF 'headgatelaw08.OrderPairs'. -/
def orderPairsCard : Claim7 := { stood := { row := orderPairsRow, standIns := [], harness := (true, "988024d6e4608fed87cd982d47be9e373d0a67f5975c058c1e8c7637b170ad91"), looks := false }, kinds := [], alts := [], laidByText := true, laidKinds := [.data, .data], laidTests := true, laidLooks := .later }
def OrderPairsCardSaid : Prop := Claim7.holds Tryd.pinned (.plain (OpenSpec.ofChange orderPairsSpec)) orderPairsCard

/-- THE TIED CARD OF 'headgatelaw08.OrderWhole'. -/
def orderWholeCard : Claim7 := { stood := { row := orderWholeRow, standIns := [], harness := (true, "988024d6e4608fed87cd982d47be9e373d0a67f5975c058c1e8c7637b170ad91"), looks := false }, kinds := [], alts := [], laidByText := true, laidKinds := [.data, .data], laidTests := true, laidLooks := .later }
def OrderWholeCardSaid : Prop := Claim7.holds Tryd.pinned (.plain (OpenSpec.ofChange orderWholeSpec)) orderWholeCard

/-- THE SECOND FORM's CARD OF 'headgatelaw08.OrderSizes'. -/
def orderSizesUptoCard : Claim7 := { stood := { row := orderSizesUptoRow, standIns := [], harness := (true, "988024d6e4608fed87cd982d47be9e373d0a67f5975c058c1e8c7637b170ad91"), looks := false }, kinds := [], alts := [], laidByText := true, laidKinds := [.data, .data], laidTests := true, laidLooks := .later }
def OrderSizesUptoCardSaid : Prop := Claim7.holds Tryd.pinned (.plain (OpenSpec.upto orderSizesSpec)) orderSizesUptoCard

/-- THE SECOND FORM's CARD OF 'headgatelaw08.OrderBlocks'. -/
def orderBlocksUptoCard : Claim7 := { stood := { row := orderBlocksUptoRow, standIns := [], harness := (true, "988024d6e4608fed87cd982d47be9e373d0a67f5975c058c1e8c7637b170ad91"), looks := false }, kinds := [], alts := [], laidByText := true, laidKinds := [.data, .data], laidTests := true, laidLooks := .later }
def OrderBlocksUptoCardSaid : Prop := Claim7.holds Tryd.pinned (.plain (OpenSpec.upto orderBlocksSpec)) orderBlocksUptoCard

/-- THE SECOND FORM's CARD OF 'headgatelaw08.OrderCuts'. -/
def orderCutsUptoCard : Claim7 := { stood := { row := orderCutsUptoRow, standIns := [], harness := (true, "988024d6e4608fed87cd982d47be9e373d0a67f5975c058c1e8c7637b170ad91"), looks := false }, kinds := [], alts := [], laidByText := true, laidKinds := [.data, .data], laidTests := true, laidLooks := .later }
def OrderCutsUptoCardSaid : Prop := Claim7.holds Tryd.pinned (.plain (OpenSpec.upto orderCutsSpec)) orderCutsUptoCard

/-- THE SECOND FORM's CARD OF 'headgatelaw08.OrderLists'. -/
def orderListsUptoCard : Claim7 := { stood := { row := orderListsUptoRow, standIns := [], harness := (true, "988024d6e4608fed87cd982d47be9e373d0a67f5975c058c1e8c7637b170ad91"), looks := false }, kinds := [], alts := [], laidByText := true, laidKinds := [.data, .data], laidTests := true, laidLooks := .later }
def OrderListsUptoCardSaid : Prop := Claim7.holds Tryd.pinned (.plain (OpenSpec.upto orderListsSpec)) orderListsUptoCard

/-- THE SECOND FORM's CARD OF 'headgatelaw08.OrderKnown'. -/
def orderKnownUptoCard : Claim7 := { stood := { row := orderKnownUptoRow, standIns := [], harness := (true, "988024d6e4608fed87cd982d47be9e373d0a67f5975c058c1e8c7637b170ad91"), looks := false }, kinds := [], alts := [], laidByText := true, laidKinds := [.data, .data], laidTests := true, laidLooks := .later }
def OrderKnownUptoCardSaid : Prop := Claim7.holds Tryd.pinned (.plain (OpenSpec.upto orderKnownSpec)) orderKnownUptoCard

/-- THE SECOND FORM's CARD OF 'headgatelaw08.OrderPowers'. -/
def orderPowersUptoCard : Claim7 := { stood := { row := orderPowersUptoRow, standIns := [], harness := (true, "988024d6e4608fed87cd982d47be9e373d0a67f5975c058c1e8c7637b170ad91"), looks := false }, kinds := [], alts := [], laidByText := true, laidKinds := [.data, .data], laidTests := true, laidLooks := .later }
def OrderPowersUptoCardSaid : Prop := Claim7.holds Tryd.pinned (.plain (OpenSpec.upto orderPowersSpec)) orderPowersUptoCard

/-- THE SECOND FORM's CARD OF 'headgatelaw08.OrderPairs'. -/
def orderPairsUptoCard : Claim7 := { stood := { row := orderPairsUptoRow, standIns := [], harness := (true, "988024d6e4608fed87cd982d47be9e373d0a67f5975c058c1e8c7637b170ad91"), looks := false }, kinds := [], alts := [], laidByText := true, laidKinds := [.data, .data], laidTests := true, laidLooks := .later }
def OrderPairsUptoCardSaid : Prop := Claim7.holds Tryd.pinned (.plain (OpenSpec.upto orderPairsSpec)) orderPairsUptoCard

/-- THE SECOND FORM's CARD OF 'headgatelaw08.OrderWhole'. -/
def orderWholeUptoCard : Claim7 := { stood := { row := orderWholeUptoRow, standIns := [], harness := (true, "988024d6e4608fed87cd982d47be9e373d0a67f5975c058c1e8c7637b170ad91"), looks := false }, kinds := [], alts := [], laidByText := true, laidKinds := [.data, .data], laidTests := true, laidLooks := .later }
def OrderWholeUptoCardSaid : Prop := Claim7.holds Tryd.pinned (.plain (OpenSpec.upto orderWholeSpec)) orderWholeUptoCard
end Rows
end Go.Proofs.YtkneonfhikcdkaaDoor
