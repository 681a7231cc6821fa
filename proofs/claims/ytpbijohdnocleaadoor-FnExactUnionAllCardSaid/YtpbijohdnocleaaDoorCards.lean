/-
  DERIVED. GIVEN WITH THE SEED: THE CARDS: each row of YtpbijohdnocleaaDoorRows.lean that lists a variable, with what it lists TIED to the program's text (the seventh form; the later family's looks); each row that meets fmt, with fmt's text TOLD by the authors' own Lean function (tested against real Go, not proved from fmt's source: count such statements apart). THE CARD IS WHAT COUNTS. Prove the row's statement (the work); the ties are given (YtpbijohdnocleaaDoorTie.lean); close each card by the builder's one call (the guide's Derived/Test/ToyasCard.lean, 'card_holds'). Laid BY PROGRAM, IN A SANDBOX (cutbox-door.mjs). By AI agents, Wed Nov 11 2026. No macro, syntax, notation, axiom, sorry.
-/
import Derived.Test.YtpbijohdnocleaaDoorRows
import GoSem.ClaimSeven
namespace Go.Proofs.YtpbijohdnocleaaDoor
namespace Rows

/-- THE TIED CARD OF 'laws.FnExactIsRegion'. -/
def fnExactIsRegionCard : Claim7 := { stood := { row := fnExactIsRegionRow, standIns := [], harness := (true, "fe10baf490f9c694fb500ff0bc6420ca5b3386ea4d6e4914f290be53896ec06b"), looks := false }, kinds := [], alts := [], laidByText := true, laidKinds := [.data, .data], laidTests := true, laidLooks := .later }
def FnExactIsRegionCardSaid : Prop := Claim7.holds Tryd.pinned (.plain (OpenSpec.ofChange fnExactIsRegionSpec)) fnExactIsRegionCard

/-- THE TIED CARD OF 'laws.FnExactRegionOf'. -/
def fnExactRegionOfCard : Claim7 := { stood := { row := fnExactRegionOfRow, standIns := [], harness := (true, "fe10baf490f9c694fb500ff0bc6420ca5b3386ea4d6e4914f290be53896ec06b"), looks := false }, kinds := [], alts := [], laidByText := true, laidKinds := [.data, .data], laidTests := true, laidLooks := .later }
def FnExactRegionOfCardSaid : Prop := Claim7.holds Tryd.pinned (.plain (OpenSpec.ofChange fnExactRegionOfSpec)) fnExactRegionOfCard

/-- THE TIED CARD OF 'laws.FnExactRegionArea'. -/
def fnExactRegionAreaCard : Claim7 := { stood := { row := fnExactRegionAreaRow, standIns := [], harness := (true, "fe10baf490f9c694fb500ff0bc6420ca5b3386ea4d6e4914f290be53896ec06b"), looks := false }, kinds := [], alts := [], laidByText := true, laidKinds := [.data, .data], laidTests := true, laidLooks := .later }
def FnExactRegionAreaCardSaid : Prop := Claim7.holds Tryd.pinned (.plain (OpenSpec.ofChange fnExactRegionAreaSpec)) fnExactRegionAreaCard

/-- THE TIED CARD OF 'laws.FnExactRegionContains'. -/
def fnExactRegionContainsCard : Claim7 := { stood := { row := fnExactRegionContainsRow, standIns := [], harness := (true, "fe10baf490f9c694fb500ff0bc6420ca5b3386ea4d6e4914f290be53896ec06b"), looks := false }, kinds := [], alts := [], laidByText := true, laidKinds := [.data, .data], laidTests := true, laidLooks := .later }
def FnExactRegionContainsCardSaid : Prop := Claim7.holds Tryd.pinned (.plain (OpenSpec.ofChange fnExactRegionContainsSpec)) fnExactRegionContainsCard

/-- THE TIED CARD OF 'laws.FnExactRegionBox'. -/
def fnExactRegionBoxCard : Claim7 := { stood := { row := fnExactRegionBoxRow, standIns := [], harness := (true, "fe10baf490f9c694fb500ff0bc6420ca5b3386ea4d6e4914f290be53896ec06b"), looks := false }, kinds := [], alts := [], laidByText := true, laidKinds := [.data, .data], laidTests := true, laidLooks := .later }
def FnExactRegionBoxCardSaid : Prop := Claim7.holds Tryd.pinned (.plain (OpenSpec.ofChange fnExactRegionBoxSpec)) fnExactRegionBoxCard

/-- THE TIED CARD OF 'laws.FnExactRegionRow'. -/
def fnExactRegionRowCard : Claim7 := { stood := { row := fnExactRegionRowRow, standIns := [], harness := (true, "fe10baf490f9c694fb500ff0bc6420ca5b3386ea4d6e4914f290be53896ec06b"), looks := false }, kinds := [], alts := [], laidByText := true, laidKinds := [.data, .data], laidTests := true, laidLooks := .later }
def FnExactRegionRowCardSaid : Prop := Claim7.holds Tryd.pinned (.plain (OpenSpec.ofChange fnExactRegionRowSpec)) fnExactRegionRowCard

/-- THE TIED CARD OF 'laws.FnExactClipRegion'. -/
def fnExactClipRegionCard : Claim7 := { stood := { row := fnExactClipRegionRow, standIns := [], harness := (true, "fe10baf490f9c694fb500ff0bc6420ca5b3386ea4d6e4914f290be53896ec06b"), looks := false }, kinds := [], alts := [], laidByText := true, laidKinds := [.data, .data], laidTests := true, laidLooks := .later }
def FnExactClipRegionCardSaid : Prop := Claim7.holds Tryd.pinned (.plain (OpenSpec.ofChange fnExactClipRegionSpec)) fnExactClipRegionCard

/-- THE TIED CARD OF 'laws.FnExactMoveRegion'. -/
def fnExactMoveRegionCard : Claim7 := { stood := { row := fnExactMoveRegionRow, standIns := [], harness := (true, "fe10baf490f9c694fb500ff0bc6420ca5b3386ea4d6e4914f290be53896ec06b"), looks := false }, kinds := [], alts := [], laidByText := true, laidKinds := [.data, .wider, .data], laidTests := true, laidLooks := .later }
def FnExactMoveRegionCardSaid : Prop := Claim7.holds Tryd.pinned (.plain (OpenSpec.ofChange fnExactMoveRegionSpec)) fnExactMoveRegionCard

/-- THE TIED CARD OF 'laws.FnExactUnion'. -/
def fnExactUnionCard : Claim7 := { stood := { row := fnExactUnionRow, standIns := [], harness := (true, "fe10baf490f9c694fb500ff0bc6420ca5b3386ea4d6e4914f290be53896ec06b"), looks := false }, kinds := [], alts := [], laidByText := true, laidKinds := [.data, .data], laidTests := true, laidLooks := .later }
def FnExactUnionCardSaid : Prop := Claim7.holds Tryd.pinned (.plain (OpenSpec.ofChange fnExactUnionSpec)) fnExactUnionCard

/-- THE TIED CARD OF 'laws.FnExactIntersection'. -/
def fnExactIntersectionCard : Claim7 := { stood := { row := fnExactIntersectionRow, standIns := [], harness := (true, "fe10baf490f9c694fb500ff0bc6420ca5b3386ea4d6e4914f290be53896ec06b"), looks := false }, kinds := [], alts := [], laidByText := true, laidKinds := [.data, .data], laidTests := true, laidLooks := .later }
def FnExactIntersectionCardSaid : Prop := Claim7.holds Tryd.pinned (.plain (OpenSpec.ofChange fnExactIntersectionSpec)) fnExactIntersectionCard

/-- THE TIED CARD OF 'laws.FnExactDifference'. -/
def fnExactDifferenceCard : Claim7 := { stood := { row := fnExactDifferenceRow, standIns := [], harness := (true, "fe10baf490f9c694fb500ff0bc6420ca5b3386ea4d6e4914f290be53896ec06b"), looks := false }, kinds := [], alts := [], laidByText := true, laidKinds := [.data, .data], laidTests := true, laidLooks := .later }
def FnExactDifferenceCardSaid : Prop := Claim7.holds Tryd.pinned (.plain (OpenSpec.ofChange fnExactDifferenceSpec)) fnExactDifferenceCard

/-- THE TIED CARD OF 'laws.FnExactSymmetricDifference'. -/
def fnExactSymmetricDifferenceCard : Claim7 := { stood := { row := fnExactSymmetricDifferenceRow, standIns := [], harness := (true, "fe10baf490f9c694fb500ff0bc6420ca5b3386ea4d6e4914f290be53896ec06b"), looks := false }, kinds := [], alts := [], laidByText := true, laidKinds := [.data, .data], laidTests := true, laidLooks := .later }
def FnExactSymmetricDifferenceCardSaid : Prop := Claim7.holds Tryd.pinned (.plain (OpenSpec.ofChange fnExactSymmetricDifferenceSpec)) fnExactSymmetricDifferenceCard

/-- THE TIED CARD OF 'laws.FnExactComplement'. -/
def fnExactComplementCard : Claim7 := { stood := { row := fnExactComplementRow, standIns := [], harness := (true, "fe10baf490f9c694fb500ff0bc6420ca5b3386ea4d6e4914f290be53896ec06b"), looks := false }, kinds := [], alts := [], laidByText := true, laidKinds := [.data, .data], laidTests := true, laidLooks := .later }
def FnExactComplementCardSaid : Prop := Claim7.holds Tryd.pinned (.plain (OpenSpec.ofChange fnExactComplementSpec)) fnExactComplementCard

/-- THE TIED CARD OF 'laws.FnExactUnionAll'. -/
def fnExactUnionAllCard : Claim7 := { stood := { row := fnExactUnionAllRow, standIns := [], harness := (true, "fe10baf490f9c694fb500ff0bc6420ca5b3386ea4d6e4914f290be53896ec06b"), looks := false }, kinds := [], alts := [], laidByText := true, laidKinds := [.data, .data], laidTests := true, laidLooks := .later }
def FnExactUnionAllCardSaid : Prop := Claim7.holds Tryd.pinned (.plain (OpenSpec.ofChange fnExactUnionAllSpec)) fnExactUnionAllCard

/-- THE TIED CARD OF 'laws.FnExactCovers'. -/
def fnExactCoversCard : Claim7 := { stood := { row := fnExactCoversRow, standIns := [], harness := (true, "fe10baf490f9c694fb500ff0bc6420ca5b3386ea4d6e4914f290be53896ec06b"), looks := false }, kinds := [], alts := [], laidByText := true, laidKinds := [.data, .data], laidTests := true, laidLooks := .later }
def FnExactCoversCardSaid : Prop := Claim7.holds Tryd.pinned (.plain (OpenSpec.ofChange fnExactCoversSpec)) fnExactCoversCard

/-- THE TIED CARD OF 'laws.FnExactOverlaps'. -/
def fnExactOverlapsCard : Claim7 := { stood := { row := fnExactOverlapsRow, standIns := [], harness := (true, "fe10baf490f9c694fb500ff0bc6420ca5b3386ea4d6e4914f290be53896ec06b"), looks := false }, kinds := [], alts := [], laidByText := true, laidKinds := [.data, .data], laidTests := true, laidLooks := .later }
def FnExactOverlapsCardSaid : Prop := Claim7.holds Tryd.pinned (.plain (OpenSpec.ofChange fnExactOverlapsSpec)) fnExactOverlapsCard

/-- THE SECOND FORM's CARD OF 'laws.FnExactIsRegion'. -/
def fnExactIsRegionUptoCard : Claim7 := { stood := { row := fnExactIsRegionUptoRow, standIns := [], harness := (true, "fe10baf490f9c694fb500ff0bc6420ca5b3386ea4d6e4914f290be53896ec06b"), looks := false }, kinds := [], alts := [], laidByText := true, laidKinds := [.data, .data], laidTests := true, laidLooks := .later }
def FnExactIsRegionUptoCardSaid : Prop := Claim7.holds Tryd.pinned (.plain (OpenSpec.upto fnExactIsRegionSpec)) fnExactIsRegionUptoCard

/-- THE SECOND FORM's CARD OF 'laws.FnExactRegionOf'. -/
def fnExactRegionOfUptoCard : Claim7 := { stood := { row := fnExactRegionOfUptoRow, standIns := [], harness := (true, "fe10baf490f9c694fb500ff0bc6420ca5b3386ea4d6e4914f290be53896ec06b"), looks := false }, kinds := [], alts := [], laidByText := true, laidKinds := [.data, .data], laidTests := true, laidLooks := .later }
def FnExactRegionOfUptoCardSaid : Prop := Claim7.holds Tryd.pinned (.plain (OpenSpec.upto fnExactRegionOfSpec)) fnExactRegionOfUptoCard

/-- THE SECOND FORM's CARD OF 'laws.FnExactRegionArea'. -/
def fnExactRegionAreaUptoCard : Claim7 := { stood := { row := fnExactRegionAreaUptoRow, standIns := [], harness := (true, "fe10baf490f9c694fb500ff0bc6420ca5b3386ea4d6e4914f290be53896ec06b"), looks := false }, kinds := [], alts := [], laidByText := true, laidKinds := [.data, .data], laidTests := true, laidLooks := .later }
def FnExactRegionAreaUptoCardSaid : Prop := Claim7.holds Tryd.pinned (.plain (OpenSpec.upto fnExactRegionAreaSpec)) fnExactRegionAreaUptoCard

/-- THE SECOND FORM's CARD OF 'laws.FnExactRegionContains'. -/
def fnExactRegionContainsUptoCard : Claim7 := { stood := { row := fnExactRegionContainsUptoRow, standIns := [], harness := (true, "fe10baf490f9c694fb500ff0bc6420ca5b3386ea4d6e4914f290be53896ec06b"), looks := false }, kinds := [], alts := [], laidByText := true, laidKinds := [.data, .data], laidTests := true, laidLooks := .later }
def FnExactRegionContainsUptoCardSaid : Prop := Claim7.holds Tryd.pinned (.plain (OpenSpec.upto fnExactRegionContainsSpec)) fnExactRegionContainsUptoCard

/-- THE SECOND FORM's CARD OF 'laws.FnExactRegionBox'. -/
def fnExactRegionBoxUptoCard : Claim7 := { stood := { row := fnExactRegionBoxUptoRow, standIns := [], harness := (true, "fe10baf490f9c694fb500ff0bc6420ca5b3386ea4d6e4914f290be53896ec06b"), looks := false }, kinds := [], alts := [], laidByText := true, laidKinds := [.data, .data], laidTests := true, laidLooks := .later }
def FnExactRegionBoxUptoCardSaid : Prop := Claim7.holds Tryd.pinned (.plain (OpenSpec.upto fnExactRegionBoxSpec)) fnExactRegionBoxUptoCard

/-- THE SECOND FORM's CARD OF 'laws.FnExactRegionRow'. -/
def fnExactRegionRowUptoCard : Claim7 := { stood := { row := fnExactRegionRowUptoRow, standIns := [], harness := (true, "fe10baf490f9c694fb500ff0bc6420ca5b3386ea4d6e4914f290be53896ec06b"), looks := false }, kinds := [], alts := [], laidByText := true, laidKinds := [.data, .data], laidTests := true, laidLooks := .later }
def FnExactRegionRowUptoCardSaid : Prop := Claim7.holds Tryd.pinned (.plain (OpenSpec.upto fnExactRegionRowSpec)) fnExactRegionRowUptoCard

/-- THE SECOND FORM's CARD OF 'laws.FnExactClipRegion'. -/
def fnExactClipRegionUptoCard : Claim7 := { stood := { row := fnExactClipRegionUptoRow, standIns := [], harness := (true, "fe10baf490f9c694fb500ff0bc6420ca5b3386ea4d6e4914f290be53896ec06b"), looks := false }, kinds := [], alts := [], laidByText := true, laidKinds := [.data, .data], laidTests := true, laidLooks := .later }
def FnExactClipRegionUptoCardSaid : Prop := Claim7.holds Tryd.pinned (.plain (OpenSpec.upto fnExactClipRegionSpec)) fnExactClipRegionUptoCard

/-- THE SECOND FORM's CARD OF 'laws.FnExactMoveRegion'. -/
def fnExactMoveRegionUptoCard : Claim7 := { stood := { row := fnExactMoveRegionUptoRow, standIns := [], harness := (true, "fe10baf490f9c694fb500ff0bc6420ca5b3386ea4d6e4914f290be53896ec06b"), looks := false }, kinds := [], alts := [], laidByText := true, laidKinds := [.data, .wider, .data], laidTests := true, laidLooks := .later }
def FnExactMoveRegionUptoCardSaid : Prop := Claim7.holds Tryd.pinned (.plain (OpenSpec.upto fnExactMoveRegionSpec)) fnExactMoveRegionUptoCard

/-- THE SECOND FORM's CARD OF 'laws.FnExactUnion'. -/
def fnExactUnionUptoCard : Claim7 := { stood := { row := fnExactUnionUptoRow, standIns := [], harness := (true, "fe10baf490f9c694fb500ff0bc6420ca5b3386ea4d6e4914f290be53896ec06b"), looks := false }, kinds := [], alts := [], laidByText := true, laidKinds := [.data, .data], laidTests := true, laidLooks := .later }
def FnExactUnionUptoCardSaid : Prop := Claim7.holds Tryd.pinned (.plain (OpenSpec.upto fnExactUnionSpec)) fnExactUnionUptoCard

/-- THE SECOND FORM's CARD OF 'laws.FnExactIntersection'. -/
def fnExactIntersectionUptoCard : Claim7 := { stood := { row := fnExactIntersectionUptoRow, standIns := [], harness := (true, "fe10baf490f9c694fb500ff0bc6420ca5b3386ea4d6e4914f290be53896ec06b"), looks := false }, kinds := [], alts := [], laidByText := true, laidKinds := [.data, .data], laidTests := true, laidLooks := .later }
def FnExactIntersectionUptoCardSaid : Prop := Claim7.holds Tryd.pinned (.plain (OpenSpec.upto fnExactIntersectionSpec)) fnExactIntersectionUptoCard

/-- THE SECOND FORM's CARD OF 'laws.FnExactDifference'. -/
def fnExactDifferenceUptoCard : Claim7 := { stood := { row := fnExactDifferenceUptoRow, standIns := [], harness := (true, "fe10baf490f9c694fb500ff0bc6420ca5b3386ea4d6e4914f290be53896ec06b"), looks := false }, kinds := [], alts := [], laidByText := true, laidKinds := [.data, .data], laidTests := true, laidLooks := .later }
def FnExactDifferenceUptoCardSaid : Prop := Claim7.holds Tryd.pinned (.plain (OpenSpec.upto fnExactDifferenceSpec)) fnExactDifferenceUptoCard

/-- THE SECOND FORM's CARD OF 'laws.FnExactSymmetricDifference'. -/
def fnExactSymmetricDifferenceUptoCard : Claim7 := { stood := { row := fnExactSymmetricDifferenceUptoRow, standIns := [], harness := (true, "fe10baf490f9c694fb500ff0bc6420ca5b3386ea4d6e4914f290be53896ec06b"), looks := false }, kinds := [], alts := [], laidByText := true, laidKinds := [.data, .data], laidTests := true, laidLooks := .later }
def FnExactSymmetricDifferenceUptoCardSaid : Prop := Claim7.holds Tryd.pinned (.plain (OpenSpec.upto fnExactSymmetricDifferenceSpec)) fnExactSymmetricDifferenceUptoCard

/-- THE SECOND FORM's CARD OF 'laws.FnExactComplement'. -/
def fnExactComplementUptoCard : Claim7 := { stood := { row := fnExactComplementUptoRow, standIns := [], harness := (true, "fe10baf490f9c694fb500ff0bc6420ca5b3386ea4d6e4914f290be53896ec06b"), looks := false }, kinds := [], alts := [], laidByText := true, laidKinds := [.data, .data], laidTests := true, laidLooks := .later }
def FnExactComplementUptoCardSaid : Prop := Claim7.holds Tryd.pinned (.plain (OpenSpec.upto fnExactComplementSpec)) fnExactComplementUptoCard

/-- THE SECOND FORM's CARD OF 'laws.FnExactUnionAll'. -/
def fnExactUnionAllUptoCard : Claim7 := { stood := { row := fnExactUnionAllUptoRow, standIns := [], harness := (true, "fe10baf490f9c694fb500ff0bc6420ca5b3386ea4d6e4914f290be53896ec06b"), looks := false }, kinds := [], alts := [], laidByText := true, laidKinds := [.data, .data], laidTests := true, laidLooks := .later }
def FnExactUnionAllUptoCardSaid : Prop := Claim7.holds Tryd.pinned (.plain (OpenSpec.upto fnExactUnionAllSpec)) fnExactUnionAllUptoCard

/-- THE SECOND FORM's CARD OF 'laws.FnExactCovers'. -/
def fnExactCoversUptoCard : Claim7 := { stood := { row := fnExactCoversUptoRow, standIns := [], harness := (true, "fe10baf490f9c694fb500ff0bc6420ca5b3386ea4d6e4914f290be53896ec06b"), looks := false }, kinds := [], alts := [], laidByText := true, laidKinds := [.data, .data], laidTests := true, laidLooks := .later }
def FnExactCoversUptoCardSaid : Prop := Claim7.holds Tryd.pinned (.plain (OpenSpec.upto fnExactCoversSpec)) fnExactCoversUptoCard

/-- THE SECOND FORM's CARD OF 'laws.FnExactOverlaps'. -/
def fnExactOverlapsUptoCard : Claim7 := { stood := { row := fnExactOverlapsUptoRow, standIns := [], harness := (true, "fe10baf490f9c694fb500ff0bc6420ca5b3386ea4d6e4914f290be53896ec06b"), looks := false }, kinds := [], alts := [], laidByText := true, laidKinds := [.data, .data], laidTests := true, laidLooks := .later }
def FnExactOverlapsUptoCardSaid : Prop := Claim7.holds Tryd.pinned (.plain (OpenSpec.upto fnExactOverlapsSpec)) fnExactOverlapsUptoCard
end Rows
end Go.Proofs.YtpbijohdnocleaaDoor
