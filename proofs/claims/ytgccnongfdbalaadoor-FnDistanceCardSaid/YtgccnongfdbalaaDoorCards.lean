/-
  DERIVED. GIVEN WITH THE SEED: THE CARDS: each row of YtgccnongfdbalaaDoorRows.lean that lists a variable, with what it lists TIED to the program's text (the seventh form; the later family's looks); each row that meets fmt, with fmt's text TOLD by the authors' own Lean function (tested against real Go, not proved from fmt's source: count such statements apart). THE CARD IS WHAT COUNTS. Prove the row's statement (the work); the ties are given (YtgccnongfdbalaaDoorTie.lean); close each card by the builder's one call (the guide's Derived/Test/ToyasCard.lean, 'card_holds'). Laid BY PROGRAM, IN A SANDBOX (cutbox-door.mjs). By AI agents, Wed Nov 11 2026. No macro, syntax, notation, axiom, sorry.
-/
import Derived.Test.YtgccnongfdbalaaDoorRows
import GoSem.ClaimSeven
namespace Go.Proofs.YtgccnongfdbalaaDoor
namespace Rows

/-- THE TIED CARD OF 'laws.FnRegionOf'. -/
def fnRegionOfCard : Claim7 := { stood := { row := fnRegionOfRow, standIns := [], harness := (true, "266b7ba7f8da44caa9cf951d2e9322b36a36f2bf9b9d40750f5f79c12f960e25"), looks := false }, kinds := [], alts := [], laidByText := true, laidKinds := [.data, .data], laidTests := true, laidLooks := .later }
def FnRegionOfCardSaid : Prop := Claim7.holds Tryd.pinned (.plain (OpenSpec.ofChange fnRegionOfSpec)) fnRegionOfCard

/-- THE TIED CARD OF 'laws.FnMoveRegions'. -/
def fnMoveRegionsCard : Claim7 := { stood := { row := fnMoveRegionsRow, standIns := [], harness := (true, "266b7ba7f8da44caa9cf951d2e9322b36a36f2bf9b9d40750f5f79c12f960e25"), looks := false }, kinds := [], alts := [], laidByText := true, laidKinds := [.data, .wider, .data], laidTests := true, laidLooks := .later }
def FnMoveRegionsCardSaid : Prop := Claim7.holds Tryd.pinned (.plain (OpenSpec.ofChange fnMoveRegionsSpec)) fnMoveRegionsCard

/-- THE TIED CARD OF 'laws.FnSizing'. -/
def fnSizingCard : Claim7 := { stood := { row := fnSizingRow, standIns := [], harness := (true, "266b7ba7f8da44caa9cf951d2e9322b36a36f2bf9b9d40750f5f79c12f960e25"), looks := false }, kinds := [], alts := [], laidByText := true, laidKinds := [.data, .data], laidTests := true, laidLooks := .later }
def FnSizingCardSaid : Prop := Claim7.holds Tryd.pinned (.plain (OpenSpec.ofChange fnSizingSpec)) fnSizingCard

/-- THE TIED CARD OF 'laws.FnOpening'. -/
def fnOpeningCard : Claim7 := { stood := { row := fnOpeningRow, standIns := [], harness := (true, "266b7ba7f8da44caa9cf951d2e9322b36a36f2bf9b9d40750f5f79c12f960e25"), looks := false }, kinds := [], alts := [], laidByText := true, laidKinds := [.data, .data], laidTests := true, laidLooks := .later }
def FnOpeningCardSaid : Prop := Claim7.holds Tryd.pinned (.plain (OpenSpec.ofChange fnOpeningSpec)) fnOpeningCard

/-- THE TIED CARD OF 'laws.FnSquares'. -/
def fnSquaresCard : Claim7 := { stood := { row := fnSquaresRow, standIns := [], harness := (true, "266b7ba7f8da44caa9cf951d2e9322b36a36f2bf9b9d40750f5f79c12f960e25"), looks := false }, kinds := [], alts := [], laidByText := true, laidKinds := [.data, .data], laidTests := true, laidLooks := .later }
def FnSquaresCardSaid : Prop := Claim7.holds Tryd.pinned (.plain (OpenSpec.ofChange fnSquaresSpec)) fnSquaresCard

/-- THE TIED CARD OF 'laws.FnDistance'. -/
def fnDistanceCard : Claim7 := { stood := { row := fnDistanceRow, standIns := [], harness := (true, "266b7ba7f8da44caa9cf951d2e9322b36a36f2bf9b9d40750f5f79c12f960e25"), looks := false }, kinds := [], alts := [], laidByText := true, laidKinds := [.data, .data], laidTests := true, laidLooks := .later }
def FnDistanceCardSaid : Prop := Claim7.holds Tryd.pinned (.plain (OpenSpec.ofChange fnDistanceSpec)) fnDistanceCard

/-- THE TIED CARD OF 'laws.FnExactGrow'. -/
def fnExactGrowCard : Claim7 := { stood := { row := fnExactGrowRow, standIns := [], harness := (true, "266b7ba7f8da44caa9cf951d2e9322b36a36f2bf9b9d40750f5f79c12f960e25"), looks := false }, kinds := [], alts := [], laidByText := true, laidKinds := [.data, .data], laidTests := true, laidLooks := .later }
def FnExactGrowCardSaid : Prop := Claim7.holds Tryd.pinned (.plain (OpenSpec.ofChange fnExactGrowSpec)) fnExactGrowCard

/-- THE TIED CARD OF 'laws.FnExactShrink'. -/
def fnExactShrinkCard : Claim7 := { stood := { row := fnExactShrinkRow, standIns := [], harness := (true, "266b7ba7f8da44caa9cf951d2e9322b36a36f2bf9b9d40750f5f79c12f960e25"), looks := false }, kinds := [], alts := [], laidByText := true, laidKinds := [.data, .data], laidTests := true, laidLooks := .later }
def FnExactShrinkCardSaid : Prop := Claim7.holds Tryd.pinned (.plain (OpenSpec.ofChange fnExactShrinkSpec)) fnExactShrinkCard

/-- THE TIED CARD OF 'laws.FnExactOpening'. -/
def fnExactOpeningCard : Claim7 := { stood := { row := fnExactOpeningRow, standIns := [], harness := (true, "266b7ba7f8da44caa9cf951d2e9322b36a36f2bf9b9d40750f5f79c12f960e25"), looks := false }, kinds := [], alts := [], laidByText := true, laidKinds := [.data, .data], laidTests := true, laidLooks := .later }
def FnExactOpeningCardSaid : Prop := Claim7.holds Tryd.pinned (.plain (OpenSpec.ofChange fnExactOpeningSpec)) fnExactOpeningCard

/-- THE TIED CARD OF 'laws.FnExactClosing'. -/
def fnExactClosingCard : Claim7 := { stood := { row := fnExactClosingRow, standIns := [], harness := (true, "266b7ba7f8da44caa9cf951d2e9322b36a36f2bf9b9d40750f5f79c12f960e25"), looks := false }, kinds := [], alts := [], laidByText := true, laidKinds := [.data, .data], laidTests := true, laidLooks := .later }
def FnExactClosingCardSaid : Prop := Claim7.holds Tryd.pinned (.plain (OpenSpec.ofChange fnExactClosingSpec)) fnExactClosingCard

/-- THE TIED CARD OF 'laws.FnExactSquareCover'. -/
def fnExactSquareCoverCard : Claim7 := { stood := { row := fnExactSquareCoverRow, standIns := [], harness := (true, "266b7ba7f8da44caa9cf951d2e9322b36a36f2bf9b9d40750f5f79c12f960e25"), looks := false }, kinds := [], alts := [], laidByText := true, laidKinds := [.data, .data], laidTests := true, laidLooks := .later }
def FnExactSquareCoverCardSaid : Prop := Claim7.holds Tryd.pinned (.plain (OpenSpec.ofChange fnExactSquareCoverSpec)) fnExactSquareCoverCard

/-- THE TIED CARD OF 'laws.FnExactOutline'. -/
def fnExactOutlineCard : Claim7 := { stood := { row := fnExactOutlineRow, standIns := [], harness := (true, "266b7ba7f8da44caa9cf951d2e9322b36a36f2bf9b9d40750f5f79c12f960e25"), looks := false }, kinds := [], alts := [], laidByText := true, laidKinds := [.data, .data], laidTests := true, laidLooks := .later }
def FnExactOutlineCardSaid : Prop := Claim7.holds Tryd.pinned (.plain (OpenSpec.ofChange fnExactOutlineSpec)) fnExactOutlineCard

/-- THE TIED CARD OF 'laws.FnExactShiftRegion'. -/
def fnExactShiftRegionCard : Claim7 := { stood := { row := fnExactShiftRegionRow, standIns := [], harness := (true, "266b7ba7f8da44caa9cf951d2e9322b36a36f2bf9b9d40750f5f79c12f960e25"), looks := false }, kinds := [], alts := [], laidByText := true, laidKinds := [.data, .wider, .data], laidTests := true, laidLooks := .later }
def FnExactShiftRegionCardSaid : Prop := Claim7.holds Tryd.pinned (.plain (OpenSpec.ofChange fnExactShiftRegionSpec)) fnExactShiftRegionCard

/-- THE TIED CARD OF 'laws.FnExactRegionDistance'. -/
def fnExactRegionDistanceCard : Claim7 := { stood := { row := fnExactRegionDistanceRow, standIns := [], harness := (true, "266b7ba7f8da44caa9cf951d2e9322b36a36f2bf9b9d40750f5f79c12f960e25"), looks := false }, kinds := [], alts := [], laidByText := true, laidKinds := [.data, .data], laidTests := true, laidLooks := .later }
def FnExactRegionDistanceCardSaid : Prop := Claim7.holds Tryd.pinned (.plain (OpenSpec.ofChange fnExactRegionDistanceSpec)) fnExactRegionDistanceCard

/-- THE SECOND FORM's CARD OF 'laws.FnRegionOf'. -/
def fnRegionOfUptoCard : Claim7 := { stood := { row := fnRegionOfUptoRow, standIns := [], harness := (true, "266b7ba7f8da44caa9cf951d2e9322b36a36f2bf9b9d40750f5f79c12f960e25"), looks := false }, kinds := [], alts := [], laidByText := true, laidKinds := [.data, .data], laidTests := true, laidLooks := .later }
def FnRegionOfUptoCardSaid : Prop := Claim7.holds Tryd.pinned (.plain (OpenSpec.upto fnRegionOfSpec)) fnRegionOfUptoCard

/-- THE SECOND FORM's CARD OF 'laws.FnMoveRegions'. -/
def fnMoveRegionsUptoCard : Claim7 := { stood := { row := fnMoveRegionsUptoRow, standIns := [], harness := (true, "266b7ba7f8da44caa9cf951d2e9322b36a36f2bf9b9d40750f5f79c12f960e25"), looks := false }, kinds := [], alts := [], laidByText := true, laidKinds := [.data, .wider, .data], laidTests := true, laidLooks := .later }
def FnMoveRegionsUptoCardSaid : Prop := Claim7.holds Tryd.pinned (.plain (OpenSpec.upto fnMoveRegionsSpec)) fnMoveRegionsUptoCard

/-- THE SECOND FORM's CARD OF 'laws.FnSizing'. -/
def fnSizingUptoCard : Claim7 := { stood := { row := fnSizingUptoRow, standIns := [], harness := (true, "266b7ba7f8da44caa9cf951d2e9322b36a36f2bf9b9d40750f5f79c12f960e25"), looks := false }, kinds := [], alts := [], laidByText := true, laidKinds := [.data, .data], laidTests := true, laidLooks := .later }
def FnSizingUptoCardSaid : Prop := Claim7.holds Tryd.pinned (.plain (OpenSpec.upto fnSizingSpec)) fnSizingUptoCard

/-- THE SECOND FORM's CARD OF 'laws.FnOpening'. -/
def fnOpeningUptoCard : Claim7 := { stood := { row := fnOpeningUptoRow, standIns := [], harness := (true, "266b7ba7f8da44caa9cf951d2e9322b36a36f2bf9b9d40750f5f79c12f960e25"), looks := false }, kinds := [], alts := [], laidByText := true, laidKinds := [.data, .data], laidTests := true, laidLooks := .later }
def FnOpeningUptoCardSaid : Prop := Claim7.holds Tryd.pinned (.plain (OpenSpec.upto fnOpeningSpec)) fnOpeningUptoCard

/-- THE SECOND FORM's CARD OF 'laws.FnSquares'. -/
def fnSquaresUptoCard : Claim7 := { stood := { row := fnSquaresUptoRow, standIns := [], harness := (true, "266b7ba7f8da44caa9cf951d2e9322b36a36f2bf9b9d40750f5f79c12f960e25"), looks := false }, kinds := [], alts := [], laidByText := true, laidKinds := [.data, .data], laidTests := true, laidLooks := .later }
def FnSquaresUptoCardSaid : Prop := Claim7.holds Tryd.pinned (.plain (OpenSpec.upto fnSquaresSpec)) fnSquaresUptoCard

/-- THE SECOND FORM's CARD OF 'laws.FnDistance'. -/
def fnDistanceUptoCard : Claim7 := { stood := { row := fnDistanceUptoRow, standIns := [], harness := (true, "266b7ba7f8da44caa9cf951d2e9322b36a36f2bf9b9d40750f5f79c12f960e25"), looks := false }, kinds := [], alts := [], laidByText := true, laidKinds := [.data, .data], laidTests := true, laidLooks := .later }
def FnDistanceUptoCardSaid : Prop := Claim7.holds Tryd.pinned (.plain (OpenSpec.upto fnDistanceSpec)) fnDistanceUptoCard

/-- THE SECOND FORM's CARD OF 'laws.FnExactGrow'. -/
def fnExactGrowUptoCard : Claim7 := { stood := { row := fnExactGrowUptoRow, standIns := [], harness := (true, "266b7ba7f8da44caa9cf951d2e9322b36a36f2bf9b9d40750f5f79c12f960e25"), looks := false }, kinds := [], alts := [], laidByText := true, laidKinds := [.data, .data], laidTests := true, laidLooks := .later }
def FnExactGrowUptoCardSaid : Prop := Claim7.holds Tryd.pinned (.plain (OpenSpec.upto fnExactGrowSpec)) fnExactGrowUptoCard

/-- THE SECOND FORM's CARD OF 'laws.FnExactShrink'. -/
def fnExactShrinkUptoCard : Claim7 := { stood := { row := fnExactShrinkUptoRow, standIns := [], harness := (true, "266b7ba7f8da44caa9cf951d2e9322b36a36f2bf9b9d40750f5f79c12f960e25"), looks := false }, kinds := [], alts := [], laidByText := true, laidKinds := [.data, .data], laidTests := true, laidLooks := .later }
def FnExactShrinkUptoCardSaid : Prop := Claim7.holds Tryd.pinned (.plain (OpenSpec.upto fnExactShrinkSpec)) fnExactShrinkUptoCard

/-- THE SECOND FORM's CARD OF 'laws.FnExactOpening'. -/
def fnExactOpeningUptoCard : Claim7 := { stood := { row := fnExactOpeningUptoRow, standIns := [], harness := (true, "266b7ba7f8da44caa9cf951d2e9322b36a36f2bf9b9d40750f5f79c12f960e25"), looks := false }, kinds := [], alts := [], laidByText := true, laidKinds := [.data, .data], laidTests := true, laidLooks := .later }
def FnExactOpeningUptoCardSaid : Prop := Claim7.holds Tryd.pinned (.plain (OpenSpec.upto fnExactOpeningSpec)) fnExactOpeningUptoCard

/-- THE SECOND FORM's CARD OF 'laws.FnExactClosing'. -/
def fnExactClosingUptoCard : Claim7 := { stood := { row := fnExactClosingUptoRow, standIns := [], harness := (true, "266b7ba7f8da44caa9cf951d2e9322b36a36f2bf9b9d40750f5f79c12f960e25"), looks := false }, kinds := [], alts := [], laidByText := true, laidKinds := [.data, .data], laidTests := true, laidLooks := .later }
def FnExactClosingUptoCardSaid : Prop := Claim7.holds Tryd.pinned (.plain (OpenSpec.upto fnExactClosingSpec)) fnExactClosingUptoCard

/-- THE SECOND FORM's CARD OF 'laws.FnExactSquareCover'. -/
def fnExactSquareCoverUptoCard : Claim7 := { stood := { row := fnExactSquareCoverUptoRow, standIns := [], harness := (true, "266b7ba7f8da44caa9cf951d2e9322b36a36f2bf9b9d40750f5f79c12f960e25"), looks := false }, kinds := [], alts := [], laidByText := true, laidKinds := [.data, .data], laidTests := true, laidLooks := .later }
def FnExactSquareCoverUptoCardSaid : Prop := Claim7.holds Tryd.pinned (.plain (OpenSpec.upto fnExactSquareCoverSpec)) fnExactSquareCoverUptoCard

/-- THE SECOND FORM's CARD OF 'laws.FnExactOutline'. -/
def fnExactOutlineUptoCard : Claim7 := { stood := { row := fnExactOutlineUptoRow, standIns := [], harness := (true, "266b7ba7f8da44caa9cf951d2e9322b36a36f2bf9b9d40750f5f79c12f960e25"), looks := false }, kinds := [], alts := [], laidByText := true, laidKinds := [.data, .data], laidTests := true, laidLooks := .later }
def FnExactOutlineUptoCardSaid : Prop := Claim7.holds Tryd.pinned (.plain (OpenSpec.upto fnExactOutlineSpec)) fnExactOutlineUptoCard

/-- THE SECOND FORM's CARD OF 'laws.FnExactShiftRegion'. -/
def fnExactShiftRegionUptoCard : Claim7 := { stood := { row := fnExactShiftRegionUptoRow, standIns := [], harness := (true, "266b7ba7f8da44caa9cf951d2e9322b36a36f2bf9b9d40750f5f79c12f960e25"), looks := false }, kinds := [], alts := [], laidByText := true, laidKinds := [.data, .wider, .data], laidTests := true, laidLooks := .later }
def FnExactShiftRegionUptoCardSaid : Prop := Claim7.holds Tryd.pinned (.plain (OpenSpec.upto fnExactShiftRegionSpec)) fnExactShiftRegionUptoCard

/-- THE SECOND FORM's CARD OF 'laws.FnExactRegionDistance'. -/
def fnExactRegionDistanceUptoCard : Claim7 := { stood := { row := fnExactRegionDistanceUptoRow, standIns := [], harness := (true, "266b7ba7f8da44caa9cf951d2e9322b36a36f2bf9b9d40750f5f79c12f960e25"), looks := false }, kinds := [], alts := [], laidByText := true, laidKinds := [.data, .data], laidTests := true, laidLooks := .later }
def FnExactRegionDistanceUptoCardSaid : Prop := Claim7.holds Tryd.pinned (.plain (OpenSpec.upto fnExactRegionDistanceSpec)) fnExactRegionDistanceUptoCard
end Rows
end Go.Proofs.YtgccnongfdbalaaDoor
