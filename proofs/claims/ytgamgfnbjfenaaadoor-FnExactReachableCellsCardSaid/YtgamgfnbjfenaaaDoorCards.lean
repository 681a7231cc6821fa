/-
  DERIVED. GIVEN WITH THE SEED: THE CARDS: each row of YtgamgfnbjfenaaaDoorRows.lean that lists a variable, with what it lists TIED to the program's text (the seventh form; the later family's looks); each row that meets fmt, with fmt's text TOLD by the authors' own Lean function (tested against real Go, not proved from fmt's source: count such statements apart). THE CARD IS WHAT COUNTS. Prove the row's statement (the work); the ties are given (YtgamgfnbjfenaaaDoorTie.lean); close each card by the builder's one call (the guide's Derived/Test/ToyasCard.lean, 'card_holds'). Laid BY PROGRAM, IN A SANDBOX (cutbox-door.mjs). By AI agents, Wed Nov 11 2026. No macro, syntax, notation, axiom, sorry.
-/
import Derived.Test.YtgamgfnbjfenaaaDoorRows
import GoSem.ClaimSeven
namespace Go.Proofs.YtgamgfnbjfenaaaDoor
namespace Rows

/-- THE TIED CARD OF 'laws.FnHierarchyOrder'. -/
def fnHierarchyOrderCard : Claim7 := { stood := { row := fnHierarchyOrderRow, standIns := [], harness := (true, "3026bd017bdfbe526dcaf7ce6fbc5bf849fabb3f0cf78ca5208f990a0e9b34e6"), looks := false }, kinds := [], alts := [], laidByText := true, laidKinds := [.data], laidTests := true, laidLooks := .later }
def FnHierarchyOrderCardSaid : Prop := Claim7.holds Tryd.pinned (.plain (OpenSpec.ofChange fnHierarchyOrderSpec)) fnHierarchyOrderCard

/-- THE TIED CARD OF 'laws.FnExactIsValidLibrary'. -/
def fnExactIsValidLibraryCard : Claim7 := { stood := { row := fnExactIsValidLibraryRow, standIns := [], harness := (true, "3026bd017bdfbe526dcaf7ce6fbc5bf849fabb3f0cf78ca5208f990a0e9b34e6"), looks := false }, kinds := [], alts := [], laidByText := true, laidKinds := [.data], laidTests := true, laidLooks := .later }
def FnExactIsValidLibraryCardSaid : Prop := Claim7.holds Tryd.pinned (.plain (OpenSpec.ofChange fnExactIsValidLibrarySpec)) fnExactIsValidLibraryCard

/-- THE TIED CARD OF 'laws.FnExactCellIndex'. -/
def fnExactCellIndexCard : Claim7 := { stood := { row := fnExactCellIndexRow, standIns := [], harness := (true, "3026bd017bdfbe526dcaf7ce6fbc5bf849fabb3f0cf78ca5208f990a0e9b34e6"), looks := false }, kinds := [], alts := [], laidByText := true, laidKinds := [.data], laidTests := true, laidLooks := .later }
def FnExactCellIndexCardSaid : Prop := Claim7.holds Tryd.pinned (.plain (OpenSpec.ofChange fnExactCellIndexSpec)) fnExactCellIndexCard

/-- THE TIED CARD OF 'laws.FnExactCellDepth'. -/
def fnExactCellDepthCard : Claim7 := { stood := { row := fnExactCellDepthRow, standIns := [], harness := (true, "3026bd017bdfbe526dcaf7ce6fbc5bf849fabb3f0cf78ca5208f990a0e9b34e6"), looks := false }, kinds := [], alts := [], laidByText := true, laidKinds := [.data], laidTests := true, laidLooks := .later }
def FnExactCellDepthCardSaid : Prop := Claim7.holds Tryd.pinned (.plain (OpenSpec.ofChange fnExactCellDepthSpec)) fnExactCellDepthCard

/-- THE TIED CARD OF 'laws.FnExactUsersOf'. -/
def fnExactUsersOfCard : Claim7 := { stood := { row := fnExactUsersOfRow, standIns := [], harness := (true, "3026bd017bdfbe526dcaf7ce6fbc5bf849fabb3f0cf78ca5208f990a0e9b34e6"), looks := false }, kinds := [], alts := [], laidByText := true, laidKinds := [.data], laidTests := true, laidLooks := .later }
def FnExactUsersOfCardSaid : Prop := Claim7.holds Tryd.pinned (.plain (OpenSpec.ofChange fnExactUsersOfSpec)) fnExactUsersOfCard

/-- THE TIED CARD OF 'laws.FnExactReachableCells'. -/
def fnExactReachableCellsCard : Claim7 := { stood := { row := fnExactReachableCellsRow, standIns := [], harness := (true, "3026bd017bdfbe526dcaf7ce6fbc5bf849fabb3f0cf78ca5208f990a0e9b34e6"), looks := false }, kinds := [], alts := [], laidByText := true, laidKinds := [.data], laidTests := true, laidLooks := .later }
def FnExactReachableCellsCardSaid : Prop := Claim7.holds Tryd.pinned (.plain (OpenSpec.ofChange fnExactReachableCellsSpec)) fnExactReachableCellsCard

/-- THE TIED CARD OF 'laws.FnExactElementCount'. -/
def fnExactElementCountCard : Claim7 := { stood := { row := fnExactElementCountRow, standIns := [], harness := (true, "3026bd017bdfbe526dcaf7ce6fbc5bf849fabb3f0cf78ca5208f990a0e9b34e6"), looks := false }, kinds := [], alts := [], laidByText := true, laidKinds := [.data], laidTests := true, laidLooks := .later }
def FnExactElementCountCardSaid : Prop := Claim7.holds Tryd.pinned (.plain (OpenSpec.ofChange fnExactElementCountSpec)) fnExactElementCountCard

/-- THE TIED CARD OF 'laws.FnExactRemoveUnused'. -/
def fnExactRemoveUnusedCard : Claim7 := { stood := { row := fnExactRemoveUnusedRow, standIns := [], harness := (true, "3026bd017bdfbe526dcaf7ce6fbc5bf849fabb3f0cf78ca5208f990a0e9b34e6"), looks := false }, kinds := [], alts := [], laidByText := true, laidKinds := [.data], laidTests := true, laidLooks := .later }
def FnExactRemoveUnusedCardSaid : Prop := Claim7.holds Tryd.pinned (.plain (OpenSpec.ofChange fnExactRemoveUnusedSpec)) fnExactRemoveUnusedCard

/-- THE TIED CARD OF 'laws.FnExactSameLibrary'. -/
def fnExactSameLibraryCard : Claim7 := { stood := { row := fnExactSameLibraryRow, standIns := [], harness := (true, "3026bd017bdfbe526dcaf7ce6fbc5bf849fabb3f0cf78ca5208f990a0e9b34e6"), looks := false }, kinds := [], alts := [], laidByText := true, laidKinds := [.data], laidTests := true, laidLooks := .later }
def FnExactSameLibraryCardSaid : Prop := Claim7.holds Tryd.pinned (.plain (OpenSpec.ofChange fnExactSameLibrarySpec)) fnExactSameLibraryCard

/-- THE TIED CARD OF 'laws.FnPolygonMove'. -/
def fnPolygonMoveCard : Claim7 := { stood := { row := fnPolygonMoveRow, standIns := [], harness := (true, "3026bd017bdfbe526dcaf7ce6fbc5bf849fabb3f0cf78ca5208f990a0e9b34e6"), looks := false }, kinds := [], alts := [], laidByText := true, laidKinds := [.data, .wider, .data], laidTests := true, laidLooks := .later }
def FnPolygonMoveCardSaid : Prop := Claim7.holds Tryd.pinned (.plain (OpenSpec.ofChange fnPolygonMoveSpec)) fnPolygonMoveCard

/-- THE TIED CARD OF 'laws.FnExactCornerCounts'. -/
def fnExactCornerCountsCard : Claim7 := { stood := { row := fnExactCornerCountsRow, standIns := [], harness := (true, "3026bd017bdfbe526dcaf7ce6fbc5bf849fabb3f0cf78ca5208f990a0e9b34e6"), looks := false }, kinds := [], alts := [], laidByText := true, laidKinds := [.data, .data], laidTests := true, laidLooks := .later }
def FnExactCornerCountsCardSaid : Prop := Claim7.holds Tryd.pinned (.plain (OpenSpec.ofChange fnExactCornerCountsSpec)) fnExactCornerCountsCard

/-- THE TIED CARD OF 'laws.FnHoles'. -/
def fnHolesCard : Claim7 := { stood := { row := fnHolesRow, standIns := [], harness := (true, "3026bd017bdfbe526dcaf7ce6fbc5bf849fabb3f0cf78ca5208f990a0e9b34e6"), looks := false }, kinds := [], alts := [], laidByText := true, laidKinds := [.data, .data], laidTests := true, laidLooks := .later }
def FnHolesCardSaid : Prop := Claim7.holds Tryd.pinned (.plain (OpenSpec.ofChange fnHolesSpec)) fnHolesCard

/-- THE SECOND FORM's CARD OF 'laws.FnHierarchyOrder'. -/
def fnHierarchyOrderUptoCard : Claim7 := { stood := { row := fnHierarchyOrderUptoRow, standIns := [], harness := (true, "3026bd017bdfbe526dcaf7ce6fbc5bf849fabb3f0cf78ca5208f990a0e9b34e6"), looks := false }, kinds := [], alts := [], laidByText := true, laidKinds := [.data], laidTests := true, laidLooks := .later }
def FnHierarchyOrderUptoCardSaid : Prop := Claim7.holds Tryd.pinned (.plain (OpenSpec.upto fnHierarchyOrderSpec)) fnHierarchyOrderUptoCard

/-- THE SECOND FORM's CARD OF 'laws.FnExactIsValidLibrary'. -/
def fnExactIsValidLibraryUptoCard : Claim7 := { stood := { row := fnExactIsValidLibraryUptoRow, standIns := [], harness := (true, "3026bd017bdfbe526dcaf7ce6fbc5bf849fabb3f0cf78ca5208f990a0e9b34e6"), looks := false }, kinds := [], alts := [], laidByText := true, laidKinds := [.data], laidTests := true, laidLooks := .later }
def FnExactIsValidLibraryUptoCardSaid : Prop := Claim7.holds Tryd.pinned (.plain (OpenSpec.upto fnExactIsValidLibrarySpec)) fnExactIsValidLibraryUptoCard

/-- THE SECOND FORM's CARD OF 'laws.FnExactCellIndex'. -/
def fnExactCellIndexUptoCard : Claim7 := { stood := { row := fnExactCellIndexUptoRow, standIns := [], harness := (true, "3026bd017bdfbe526dcaf7ce6fbc5bf849fabb3f0cf78ca5208f990a0e9b34e6"), looks := false }, kinds := [], alts := [], laidByText := true, laidKinds := [.data], laidTests := true, laidLooks := .later }
def FnExactCellIndexUptoCardSaid : Prop := Claim7.holds Tryd.pinned (.plain (OpenSpec.upto fnExactCellIndexSpec)) fnExactCellIndexUptoCard

/-- THE SECOND FORM's CARD OF 'laws.FnExactCellDepth'. -/
def fnExactCellDepthUptoCard : Claim7 := { stood := { row := fnExactCellDepthUptoRow, standIns := [], harness := (true, "3026bd017bdfbe526dcaf7ce6fbc5bf849fabb3f0cf78ca5208f990a0e9b34e6"), looks := false }, kinds := [], alts := [], laidByText := true, laidKinds := [.data], laidTests := true, laidLooks := .later }
def FnExactCellDepthUptoCardSaid : Prop := Claim7.holds Tryd.pinned (.plain (OpenSpec.upto fnExactCellDepthSpec)) fnExactCellDepthUptoCard

/-- THE SECOND FORM's CARD OF 'laws.FnExactUsersOf'. -/
def fnExactUsersOfUptoCard : Claim7 := { stood := { row := fnExactUsersOfUptoRow, standIns := [], harness := (true, "3026bd017bdfbe526dcaf7ce6fbc5bf849fabb3f0cf78ca5208f990a0e9b34e6"), looks := false }, kinds := [], alts := [], laidByText := true, laidKinds := [.data], laidTests := true, laidLooks := .later }
def FnExactUsersOfUptoCardSaid : Prop := Claim7.holds Tryd.pinned (.plain (OpenSpec.upto fnExactUsersOfSpec)) fnExactUsersOfUptoCard

/-- THE SECOND FORM's CARD OF 'laws.FnExactReachableCells'. -/
def fnExactReachableCellsUptoCard : Claim7 := { stood := { row := fnExactReachableCellsUptoRow, standIns := [], harness := (true, "3026bd017bdfbe526dcaf7ce6fbc5bf849fabb3f0cf78ca5208f990a0e9b34e6"), looks := false }, kinds := [], alts := [], laidByText := true, laidKinds := [.data], laidTests := true, laidLooks := .later }
def FnExactReachableCellsUptoCardSaid : Prop := Claim7.holds Tryd.pinned (.plain (OpenSpec.upto fnExactReachableCellsSpec)) fnExactReachableCellsUptoCard

/-- THE SECOND FORM's CARD OF 'laws.FnExactElementCount'. -/
def fnExactElementCountUptoCard : Claim7 := { stood := { row := fnExactElementCountUptoRow, standIns := [], harness := (true, "3026bd017bdfbe526dcaf7ce6fbc5bf849fabb3f0cf78ca5208f990a0e9b34e6"), looks := false }, kinds := [], alts := [], laidByText := true, laidKinds := [.data], laidTests := true, laidLooks := .later }
def FnExactElementCountUptoCardSaid : Prop := Claim7.holds Tryd.pinned (.plain (OpenSpec.upto fnExactElementCountSpec)) fnExactElementCountUptoCard

/-- THE SECOND FORM's CARD OF 'laws.FnExactRemoveUnused'. -/
def fnExactRemoveUnusedUptoCard : Claim7 := { stood := { row := fnExactRemoveUnusedUptoRow, standIns := [], harness := (true, "3026bd017bdfbe526dcaf7ce6fbc5bf849fabb3f0cf78ca5208f990a0e9b34e6"), looks := false }, kinds := [], alts := [], laidByText := true, laidKinds := [.data], laidTests := true, laidLooks := .later }
def FnExactRemoveUnusedUptoCardSaid : Prop := Claim7.holds Tryd.pinned (.plain (OpenSpec.upto fnExactRemoveUnusedSpec)) fnExactRemoveUnusedUptoCard

/-- THE SECOND FORM's CARD OF 'laws.FnExactSameLibrary'. -/
def fnExactSameLibraryUptoCard : Claim7 := { stood := { row := fnExactSameLibraryUptoRow, standIns := [], harness := (true, "3026bd017bdfbe526dcaf7ce6fbc5bf849fabb3f0cf78ca5208f990a0e9b34e6"), looks := false }, kinds := [], alts := [], laidByText := true, laidKinds := [.data], laidTests := true, laidLooks := .later }
def FnExactSameLibraryUptoCardSaid : Prop := Claim7.holds Tryd.pinned (.plain (OpenSpec.upto fnExactSameLibrarySpec)) fnExactSameLibraryUptoCard

/-- THE SECOND FORM's CARD OF 'laws.FnPolygonMove'. -/
def fnPolygonMoveUptoCard : Claim7 := { stood := { row := fnPolygonMoveUptoRow, standIns := [], harness := (true, "3026bd017bdfbe526dcaf7ce6fbc5bf849fabb3f0cf78ca5208f990a0e9b34e6"), looks := false }, kinds := [], alts := [], laidByText := true, laidKinds := [.data, .wider, .data], laidTests := true, laidLooks := .later }
def FnPolygonMoveUptoCardSaid : Prop := Claim7.holds Tryd.pinned (.plain (OpenSpec.upto fnPolygonMoveSpec)) fnPolygonMoveUptoCard

/-- THE SECOND FORM's CARD OF 'laws.FnExactCornerCounts'. -/
def fnExactCornerCountsUptoCard : Claim7 := { stood := { row := fnExactCornerCountsUptoRow, standIns := [], harness := (true, "3026bd017bdfbe526dcaf7ce6fbc5bf849fabb3f0cf78ca5208f990a0e9b34e6"), looks := false }, kinds := [], alts := [], laidByText := true, laidKinds := [.data, .data], laidTests := true, laidLooks := .later }
def FnExactCornerCountsUptoCardSaid : Prop := Claim7.holds Tryd.pinned (.plain (OpenSpec.upto fnExactCornerCountsSpec)) fnExactCornerCountsUptoCard

/-- THE SECOND FORM's CARD OF 'laws.FnHoles'. -/
def fnHolesUptoCard : Claim7 := { stood := { row := fnHolesUptoRow, standIns := [], harness := (true, "3026bd017bdfbe526dcaf7ce6fbc5bf849fabb3f0cf78ca5208f990a0e9b34e6"), looks := false }, kinds := [], alts := [], laidByText := true, laidKinds := [.data, .data], laidTests := true, laidLooks := .later }
def FnHolesUptoCardSaid : Prop := Claim7.holds Tryd.pinned (.plain (OpenSpec.upto fnHolesSpec)) fnHolesUptoCard
end Rows
end Go.Proofs.YtgamgfnbjfenaaaDoor
