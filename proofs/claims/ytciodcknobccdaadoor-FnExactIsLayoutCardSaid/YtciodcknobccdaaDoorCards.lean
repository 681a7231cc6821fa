/-
  DERIVED. GIVEN WITH THE SEED: THE CARDS: each row of YtciodcknobccdaaDoorRows.lean that lists a variable, with what it lists TIED to the program's text (the seventh form; the later family's looks); each row that meets fmt, with fmt's text TOLD by the authors' own Lean function (tested against real Go, not proved from fmt's source: count such statements apart). THE CARD IS WHAT COUNTS. Prove the row's statement (the work); the ties are given (YtciodcknobccdaaDoorTie.lean); close each card by the builder's one call (the guide's Derived/Test/ToyasCard.lean, 'card_holds'). Laid BY PROGRAM, IN A SANDBOX (cutbox-door.mjs). By AI agents, Wed Nov 11 2026. No macro, syntax, notation, axiom, sorry.
-/
import Derived.Test.YtciodcknobccdaaDoorRows
import GoSem.ClaimSeven
namespace Go.Proofs.YtciodcknobccdaaDoor
namespace Rows

/-- THE TIED CARD OF 'laws.FnHierarchyOrder'. -/
def fnHierarchyOrderCard : Claim7 := { stood := { row := fnHierarchyOrderRow, standIns := [], harness := (true, "d4ac28a714c973041b810203e7c9d2e861f12ac7a9a657230230c5e74eee7d0d"), looks := false }, kinds := [], alts := [], laidByText := true, laidKinds := [.data], laidTests := true, laidLooks := .later }
def FnHierarchyOrderCardSaid : Prop := Claim7.holds Tryd.pinned (.plain (OpenSpec.ofChange fnHierarchyOrderSpec)) fnHierarchyOrderCard

/-- THE TIED CARD OF 'laws.FnTransforms'. -/
def fnTransformsCard : Claim7 := { stood := { row := fnTransformsRow, standIns := [], harness := (true, "d4ac28a714c973041b810203e7c9d2e861f12ac7a9a657230230c5e74eee7d0d"), looks := false }, kinds := [], alts := [], laidByText := true, laidKinds := [.wider], laidTests := true, laidLooks := .later }
def FnTransformsCardSaid : Prop := Claim7.holds Tryd.pinned (.plain (OpenSpec.ofChange fnTransformsSpec)) fnTransformsCard

/-- THE TIED CARD OF 'laws.FnExactComposeTransforms'. -/
def fnExactComposeTransformsCard : Claim7 := { stood := { row := fnExactComposeTransformsRow, standIns := [], harness := (true, "d4ac28a714c973041b810203e7c9d2e861f12ac7a9a657230230c5e74eee7d0d"), looks := false }, kinds := [], alts := [], laidByText := true, laidKinds := [.wider], laidTests := true, laidLooks := .later }
def FnExactComposeTransformsCardSaid : Prop := Claim7.holds Tryd.pinned (.plain (OpenSpec.ofChange fnExactComposeTransformsSpec)) fnExactComposeTransformsCard

/-- THE TIED CARD OF 'laws.FnExactCellDepth'. -/
def fnExactCellDepthCard : Claim7 := { stood := { row := fnExactCellDepthRow, standIns := [], harness := (true, "d4ac28a714c973041b810203e7c9d2e861f12ac7a9a657230230c5e74eee7d0d"), looks := false }, kinds := [], alts := [], laidByText := true, laidKinds := [.data], laidTests := true, laidLooks := .later }
def FnExactCellDepthCardSaid : Prop := Claim7.holds Tryd.pinned (.plain (OpenSpec.ofChange fnExactCellDepthSpec)) fnExactCellDepthCard

/-- THE TIED CARD OF 'laws.FnExactUsersOf'. -/
def fnExactUsersOfCard : Claim7 := { stood := { row := fnExactUsersOfRow, standIns := [], harness := (true, "d4ac28a714c973041b810203e7c9d2e861f12ac7a9a657230230c5e74eee7d0d"), looks := false }, kinds := [], alts := [], laidByText := true, laidKinds := [.data], laidTests := true, laidLooks := .later }
def FnExactUsersOfCardSaid : Prop := Claim7.holds Tryd.pinned (.plain (OpenSpec.ofChange fnExactUsersOfSpec)) fnExactUsersOfCard

/-- THE TIED CARD OF 'laws.FnExactReachableCells'. -/
def fnExactReachableCellsCard : Claim7 := { stood := { row := fnExactReachableCellsRow, standIns := [], harness := (true, "d4ac28a714c973041b810203e7c9d2e861f12ac7a9a657230230c5e74eee7d0d"), looks := false }, kinds := [], alts := [], laidByText := true, laidKinds := [.data], laidTests := true, laidLooks := .later }
def FnExactReachableCellsCardSaid : Prop := Claim7.holds Tryd.pinned (.plain (OpenSpec.ofChange fnExactReachableCellsSpec)) fnExactReachableCellsCard

/-- THE TIED CARD OF 'laws.FnExactElementCount'. -/
def fnExactElementCountCard : Claim7 := { stood := { row := fnExactElementCountRow, standIns := [], harness := (true, "d4ac28a714c973041b810203e7c9d2e861f12ac7a9a657230230c5e74eee7d0d"), looks := false }, kinds := [], alts := [], laidByText := true, laidKinds := [.data], laidTests := true, laidLooks := .later }
def FnExactElementCountCardSaid : Prop := Claim7.holds Tryd.pinned (.plain (OpenSpec.ofChange fnExactElementCountSpec)) fnExactElementCountCard

/-- THE TIED CARD OF 'laws.FnExactIsLayout'. -/
def fnExactIsLayoutCard : Claim7 := { stood := { row := fnExactIsLayoutRow, standIns := [], harness := (true, "d4ac28a714c973041b810203e7c9d2e861f12ac7a9a657230230c5e74eee7d0d"), looks := false }, kinds := [], alts := [], laidByText := true, laidKinds := [.data, .data], laidTests := true, laidLooks := .later }
def FnExactIsLayoutCardSaid : Prop := Claim7.holds Tryd.pinned (.plain (OpenSpec.ofChange fnExactIsLayoutSpec)) fnExactIsLayoutCard

/-- THE SECOND FORM's CARD OF 'laws.FnHierarchyOrder'. -/
def fnHierarchyOrderUptoCard : Claim7 := { stood := { row := fnHierarchyOrderUptoRow, standIns := [], harness := (true, "d4ac28a714c973041b810203e7c9d2e861f12ac7a9a657230230c5e74eee7d0d"), looks := false }, kinds := [], alts := [], laidByText := true, laidKinds := [.data], laidTests := true, laidLooks := .later }
def FnHierarchyOrderUptoCardSaid : Prop := Claim7.holds Tryd.pinned (.plain (OpenSpec.upto fnHierarchyOrderSpec)) fnHierarchyOrderUptoCard

/-- THE SECOND FORM's CARD OF 'laws.FnTransforms'. -/
def fnTransformsUptoCard : Claim7 := { stood := { row := fnTransformsUptoRow, standIns := [], harness := (true, "d4ac28a714c973041b810203e7c9d2e861f12ac7a9a657230230c5e74eee7d0d"), looks := false }, kinds := [], alts := [], laidByText := true, laidKinds := [.wider], laidTests := true, laidLooks := .later }
def FnTransformsUptoCardSaid : Prop := Claim7.holds Tryd.pinned (.plain (OpenSpec.upto fnTransformsSpec)) fnTransformsUptoCard

/-- THE SECOND FORM's CARD OF 'laws.FnExactComposeTransforms'. -/
def fnExactComposeTransformsUptoCard : Claim7 := { stood := { row := fnExactComposeTransformsUptoRow, standIns := [], harness := (true, "d4ac28a714c973041b810203e7c9d2e861f12ac7a9a657230230c5e74eee7d0d"), looks := false }, kinds := [], alts := [], laidByText := true, laidKinds := [.wider], laidTests := true, laidLooks := .later }
def FnExactComposeTransformsUptoCardSaid : Prop := Claim7.holds Tryd.pinned (.plain (OpenSpec.upto fnExactComposeTransformsSpec)) fnExactComposeTransformsUptoCard

/-- THE SECOND FORM's CARD OF 'laws.FnExactCellDepth'. -/
def fnExactCellDepthUptoCard : Claim7 := { stood := { row := fnExactCellDepthUptoRow, standIns := [], harness := (true, "d4ac28a714c973041b810203e7c9d2e861f12ac7a9a657230230c5e74eee7d0d"), looks := false }, kinds := [], alts := [], laidByText := true, laidKinds := [.data], laidTests := true, laidLooks := .later }
def FnExactCellDepthUptoCardSaid : Prop := Claim7.holds Tryd.pinned (.plain (OpenSpec.upto fnExactCellDepthSpec)) fnExactCellDepthUptoCard

/-- THE SECOND FORM's CARD OF 'laws.FnExactUsersOf'. -/
def fnExactUsersOfUptoCard : Claim7 := { stood := { row := fnExactUsersOfUptoRow, standIns := [], harness := (true, "d4ac28a714c973041b810203e7c9d2e861f12ac7a9a657230230c5e74eee7d0d"), looks := false }, kinds := [], alts := [], laidByText := true, laidKinds := [.data], laidTests := true, laidLooks := .later }
def FnExactUsersOfUptoCardSaid : Prop := Claim7.holds Tryd.pinned (.plain (OpenSpec.upto fnExactUsersOfSpec)) fnExactUsersOfUptoCard

/-- THE SECOND FORM's CARD OF 'laws.FnExactReachableCells'. -/
def fnExactReachableCellsUptoCard : Claim7 := { stood := { row := fnExactReachableCellsUptoRow, standIns := [], harness := (true, "d4ac28a714c973041b810203e7c9d2e861f12ac7a9a657230230c5e74eee7d0d"), looks := false }, kinds := [], alts := [], laidByText := true, laidKinds := [.data], laidTests := true, laidLooks := .later }
def FnExactReachableCellsUptoCardSaid : Prop := Claim7.holds Tryd.pinned (.plain (OpenSpec.upto fnExactReachableCellsSpec)) fnExactReachableCellsUptoCard

/-- THE SECOND FORM's CARD OF 'laws.FnExactElementCount'. -/
def fnExactElementCountUptoCard : Claim7 := { stood := { row := fnExactElementCountUptoRow, standIns := [], harness := (true, "d4ac28a714c973041b810203e7c9d2e861f12ac7a9a657230230c5e74eee7d0d"), looks := false }, kinds := [], alts := [], laidByText := true, laidKinds := [.data], laidTests := true, laidLooks := .later }
def FnExactElementCountUptoCardSaid : Prop := Claim7.holds Tryd.pinned (.plain (OpenSpec.upto fnExactElementCountSpec)) fnExactElementCountUptoCard

/-- THE SECOND FORM's CARD OF 'laws.FnExactIsLayout'. -/
def fnExactIsLayoutUptoCard : Claim7 := { stood := { row := fnExactIsLayoutUptoRow, standIns := [], harness := (true, "d4ac28a714c973041b810203e7c9d2e861f12ac7a9a657230230c5e74eee7d0d"), looks := false }, kinds := [], alts := [], laidByText := true, laidKinds := [.data, .data], laidTests := true, laidLooks := .later }
def FnExactIsLayoutUptoCardSaid : Prop := Claim7.holds Tryd.pinned (.plain (OpenSpec.upto fnExactIsLayoutSpec)) fnExactIsLayoutUptoCard
end Rows
end Go.Proofs.YtciodcknobccdaaDoor
