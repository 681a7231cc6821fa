/-
  DERIVED. GIVEN WITH THE SEED: THE CARDS: each row of YtdcddneanbplpaaDoorRows.lean that lists a variable, with what it lists TIED to the program's text (the seventh form; the later family's looks); each row that meets fmt, with fmt's text TOLD by the authors' own Lean function (tested against real Go, not proved from fmt's source: count such statements apart). THE CARD IS WHAT COUNTS. Prove the row's statement (the work); the ties are given (YtdcddneanbplpaaDoorTie.lean); close each card by the builder's one call (the guide's Derived/Test/ToyasCard.lean, 'card_holds'). Laid BY PROGRAM, IN A SANDBOX (cutbox-door.mjs). By AI agents, Wed Nov 11 2026. No macro, syntax, notation, axiom, sorry.
-/
import Derived.Test.YtdcddneanbplpaaDoorRows
import GoSem.ClaimSeven
namespace Go.Proofs.YtdcddneanbplpaaDoor
namespace Rows

/-- THE TIED CARD OF 'laws.FnExactIsValidRect'. -/
def fnExactIsValidRectCard : Claim7 := { stood := { row := fnExactIsValidRectRow, standIns := [], harness := (true, "8722622def38c084200a3da789ec525ff1565c7fd0dd4a1dec7b827af7f11564"), looks := false }, kinds := [], alts := [], laidByText := true, laidKinds := [.data], laidTests := true, laidLooks := .later }
def FnExactIsValidRectCardSaid : Prop := Claim7.holds Tryd.pinned (.plain (OpenSpec.ofChange fnExactIsValidRectSpec)) fnExactIsValidRectCard

/-- THE TIED CARD OF 'laws.FnExactRectArea'. -/
def fnExactRectAreaCard : Claim7 := { stood := { row := fnExactRectAreaRow, standIns := [], harness := (true, "8722622def38c084200a3da789ec525ff1565c7fd0dd4a1dec7b827af7f11564"), looks := false }, kinds := [], alts := [], laidByText := true, laidKinds := [.data], laidTests := true, laidLooks := .later }
def FnExactRectAreaCardSaid : Prop := Claim7.holds Tryd.pinned (.plain (OpenSpec.ofChange fnExactRectAreaSpec)) fnExactRectAreaCard

/-- THE TIED CARD OF 'laws.FnExactRectContains'. -/
def fnExactRectContainsCard : Claim7 := { stood := { row := fnExactRectContainsRow, standIns := [], harness := (true, "8722622def38c084200a3da789ec525ff1565c7fd0dd4a1dec7b827af7f11564"), looks := false }, kinds := [], alts := [], laidByText := true, laidKinds := [.data], laidTests := true, laidLooks := .later }
def FnExactRectContainsCardSaid : Prop := Claim7.holds Tryd.pinned (.plain (OpenSpec.ofChange fnExactRectContainsSpec)) fnExactRectContainsCard

/-- THE TIED CARD OF 'laws.FnExactRectsOverlap'. -/
def fnExactRectsOverlapCard : Claim7 := { stood := { row := fnExactRectsOverlapRow, standIns := [], harness := (true, "8722622def38c084200a3da789ec525ff1565c7fd0dd4a1dec7b827af7f11564"), looks := false }, kinds := [], alts := [], laidByText := true, laidKinds := [.data], laidTests := true, laidLooks := .later }
def FnExactRectsOverlapCardSaid : Prop := Claim7.holds Tryd.pinned (.plain (OpenSpec.ofChange fnExactRectsOverlapSpec)) fnExactRectsOverlapCard

/-- THE TIED CARD OF 'laws.FnExactRectsAbut'. -/
def fnExactRectsAbutCard : Claim7 := { stood := { row := fnExactRectsAbutRow, standIns := [], harness := (true, "8722622def38c084200a3da789ec525ff1565c7fd0dd4a1dec7b827af7f11564"), looks := false }, kinds := [], alts := [], laidByText := true, laidKinds := [.data], laidTests := true, laidLooks := .later }
def FnExactRectsAbutCardSaid : Prop := Claim7.holds Tryd.pinned (.plain (OpenSpec.ofChange fnExactRectsAbutSpec)) fnExactRectsAbutCard

/-- THE TIED CARD OF 'laws.FnExactIntersectRects'. -/
def fnExactIntersectRectsCard : Claim7 := { stood := { row := fnExactIntersectRectsRow, standIns := [], harness := (true, "8722622def38c084200a3da789ec525ff1565c7fd0dd4a1dec7b827af7f11564"), looks := false }, kinds := [], alts := [], laidByText := true, laidKinds := [.data], laidTests := true, laidLooks := .later }
def FnExactIntersectRectsCardSaid : Prop := Claim7.holds Tryd.pinned (.plain (OpenSpec.ofChange fnExactIntersectRectsSpec)) fnExactIntersectRectsCard

/-- THE TIED CARD OF 'laws.FnExactBoundingBox'. -/
def fnExactBoundingBoxCard : Claim7 := { stood := { row := fnExactBoundingBoxRow, standIns := [], harness := (true, "8722622def38c084200a3da789ec525ff1565c7fd0dd4a1dec7b827af7f11564"), looks := false }, kinds := [], alts := [], laidByText := true, laidKinds := [.data], laidTests := true, laidLooks := .later }
def FnExactBoundingBoxCardSaid : Prop := Claim7.holds Tryd.pinned (.plain (OpenSpec.ofChange fnExactBoundingBoxSpec)) fnExactBoundingBoxCard

/-- THE TIED CARD OF 'laws.FnExactRectGap'. -/
def fnExactRectGapCard : Claim7 := { stood := { row := fnExactRectGapRow, standIns := [], harness := (true, "8722622def38c084200a3da789ec525ff1565c7fd0dd4a1dec7b827af7f11564"), looks := false }, kinds := [], alts := [], laidByText := true, laidKinds := [.data], laidTests := true, laidLooks := .later }
def FnExactRectGapCardSaid : Prop := Claim7.holds Tryd.pinned (.plain (OpenSpec.ofChange fnExactRectGapSpec)) fnExactRectGapCard

/-- THE TIED CARD OF 'laws.FnExactMoveRect'. -/
def fnExactMoveRectCard : Claim7 := { stood := { row := fnExactMoveRectRow, standIns := [], harness := (true, "8722622def38c084200a3da789ec525ff1565c7fd0dd4a1dec7b827af7f11564"), looks := false }, kinds := [], alts := [], laidByText := true, laidKinds := [.wider, .data], laidTests := true, laidLooks := .later }
def FnExactMoveRectCardSaid : Prop := Claim7.holds Tryd.pinned (.plain (OpenSpec.ofChange fnExactMoveRectSpec)) fnExactMoveRectCard

/-- THE TIED CARD OF 'laws.FnBoolean'. -/
def fnBooleanCard : Claim7 := { stood := { row := fnBooleanRow, standIns := [], harness := (true, "8722622def38c084200a3da789ec525ff1565c7fd0dd4a1dec7b827af7f11564"), looks := false }, kinds := [], alts := [], laidByText := true, laidKinds := [.data, .data], laidTests := true, laidLooks := .later }
def FnBooleanCardSaid : Prop := Claim7.holds Tryd.pinned (.plain (OpenSpec.ofChange fnBooleanSpec)) fnBooleanCard

/-- THE TIED CARD OF 'laws.FnDistributive'. -/
def fnDistributiveCard : Claim7 := { stood := { row := fnDistributiveRow, standIns := [], harness := (true, "8722622def38c084200a3da789ec525ff1565c7fd0dd4a1dec7b827af7f11564"), looks := false }, kinds := [], alts := [], laidByText := true, laidKinds := [.data, .data], laidTests := true, laidLooks := .later }
def FnDistributiveCardSaid : Prop := Claim7.holds Tryd.pinned (.plain (OpenSpec.ofChange fnDistributiveSpec)) fnDistributiveCard

/-- THE TIED CARD OF 'laws.FnAreas'. -/
def fnAreasCard : Claim7 := { stood := { row := fnAreasRow, standIns := [], harness := (true, "8722622def38c084200a3da789ec525ff1565c7fd0dd4a1dec7b827af7f11564"), looks := false }, kinds := [], alts := [], laidByText := true, laidKinds := [.data, .data], laidTests := true, laidLooks := .later }
def FnAreasCardSaid : Prop := Claim7.holds Tryd.pinned (.plain (OpenSpec.ofChange fnAreasSpec)) fnAreasCard

/-- THE TIED CARD OF 'laws.FnRegionOf'. -/
def fnRegionOfCard : Claim7 := { stood := { row := fnRegionOfRow, standIns := [], harness := (true, "8722622def38c084200a3da789ec525ff1565c7fd0dd4a1dec7b827af7f11564"), looks := false }, kinds := [], alts := [], laidByText := true, laidKinds := [.data, .data], laidTests := true, laidLooks := .later }
def FnRegionOfCardSaid : Prop := Claim7.holds Tryd.pinned (.plain (OpenSpec.ofChange fnRegionOfSpec)) fnRegionOfCard

/-- THE TIED CARD OF 'laws.FnMoveRegions'. -/
def fnMoveRegionsCard : Claim7 := { stood := { row := fnMoveRegionsRow, standIns := [], harness := (true, "8722622def38c084200a3da789ec525ff1565c7fd0dd4a1dec7b827af7f11564"), looks := false }, kinds := [], alts := [], laidByText := true, laidKinds := [.data, .wider, .data], laidTests := true, laidLooks := .later }
def FnMoveRegionsCardSaid : Prop := Claim7.holds Tryd.pinned (.plain (OpenSpec.ofChange fnMoveRegionsSpec)) fnMoveRegionsCard

/-- THE SECOND FORM's CARD OF 'laws.FnExactIsValidRect'. -/
def fnExactIsValidRectUptoCard : Claim7 := { stood := { row := fnExactIsValidRectUptoRow, standIns := [], harness := (true, "8722622def38c084200a3da789ec525ff1565c7fd0dd4a1dec7b827af7f11564"), looks := false }, kinds := [], alts := [], laidByText := true, laidKinds := [.data], laidTests := true, laidLooks := .later }
def FnExactIsValidRectUptoCardSaid : Prop := Claim7.holds Tryd.pinned (.plain (OpenSpec.upto fnExactIsValidRectSpec)) fnExactIsValidRectUptoCard

/-- THE SECOND FORM's CARD OF 'laws.FnExactRectArea'. -/
def fnExactRectAreaUptoCard : Claim7 := { stood := { row := fnExactRectAreaUptoRow, standIns := [], harness := (true, "8722622def38c084200a3da789ec525ff1565c7fd0dd4a1dec7b827af7f11564"), looks := false }, kinds := [], alts := [], laidByText := true, laidKinds := [.data], laidTests := true, laidLooks := .later }
def FnExactRectAreaUptoCardSaid : Prop := Claim7.holds Tryd.pinned (.plain (OpenSpec.upto fnExactRectAreaSpec)) fnExactRectAreaUptoCard

/-- THE SECOND FORM's CARD OF 'laws.FnExactRectContains'. -/
def fnExactRectContainsUptoCard : Claim7 := { stood := { row := fnExactRectContainsUptoRow, standIns := [], harness := (true, "8722622def38c084200a3da789ec525ff1565c7fd0dd4a1dec7b827af7f11564"), looks := false }, kinds := [], alts := [], laidByText := true, laidKinds := [.data], laidTests := true, laidLooks := .later }
def FnExactRectContainsUptoCardSaid : Prop := Claim7.holds Tryd.pinned (.plain (OpenSpec.upto fnExactRectContainsSpec)) fnExactRectContainsUptoCard

/-- THE SECOND FORM's CARD OF 'laws.FnExactRectsOverlap'. -/
def fnExactRectsOverlapUptoCard : Claim7 := { stood := { row := fnExactRectsOverlapUptoRow, standIns := [], harness := (true, "8722622def38c084200a3da789ec525ff1565c7fd0dd4a1dec7b827af7f11564"), looks := false }, kinds := [], alts := [], laidByText := true, laidKinds := [.data], laidTests := true, laidLooks := .later }
def FnExactRectsOverlapUptoCardSaid : Prop := Claim7.holds Tryd.pinned (.plain (OpenSpec.upto fnExactRectsOverlapSpec)) fnExactRectsOverlapUptoCard

/-- THE SECOND FORM's CARD OF 'laws.FnExactRectsAbut'. -/
def fnExactRectsAbutUptoCard : Claim7 := { stood := { row := fnExactRectsAbutUptoRow, standIns := [], harness := (true, "8722622def38c084200a3da789ec525ff1565c7fd0dd4a1dec7b827af7f11564"), looks := false }, kinds := [], alts := [], laidByText := true, laidKinds := [.data], laidTests := true, laidLooks := .later }
def FnExactRectsAbutUptoCardSaid : Prop := Claim7.holds Tryd.pinned (.plain (OpenSpec.upto fnExactRectsAbutSpec)) fnExactRectsAbutUptoCard

/-- THE SECOND FORM's CARD OF 'laws.FnExactIntersectRects'. -/
def fnExactIntersectRectsUptoCard : Claim7 := { stood := { row := fnExactIntersectRectsUptoRow, standIns := [], harness := (true, "8722622def38c084200a3da789ec525ff1565c7fd0dd4a1dec7b827af7f11564"), looks := false }, kinds := [], alts := [], laidByText := true, laidKinds := [.data], laidTests := true, laidLooks := .later }
def FnExactIntersectRectsUptoCardSaid : Prop := Claim7.holds Tryd.pinned (.plain (OpenSpec.upto fnExactIntersectRectsSpec)) fnExactIntersectRectsUptoCard

/-- THE SECOND FORM's CARD OF 'laws.FnExactBoundingBox'. -/
def fnExactBoundingBoxUptoCard : Claim7 := { stood := { row := fnExactBoundingBoxUptoRow, standIns := [], harness := (true, "8722622def38c084200a3da789ec525ff1565c7fd0dd4a1dec7b827af7f11564"), looks := false }, kinds := [], alts := [], laidByText := true, laidKinds := [.data], laidTests := true, laidLooks := .later }
def FnExactBoundingBoxUptoCardSaid : Prop := Claim7.holds Tryd.pinned (.plain (OpenSpec.upto fnExactBoundingBoxSpec)) fnExactBoundingBoxUptoCard

/-- THE SECOND FORM's CARD OF 'laws.FnExactRectGap'. -/
def fnExactRectGapUptoCard : Claim7 := { stood := { row := fnExactRectGapUptoRow, standIns := [], harness := (true, "8722622def38c084200a3da789ec525ff1565c7fd0dd4a1dec7b827af7f11564"), looks := false }, kinds := [], alts := [], laidByText := true, laidKinds := [.data], laidTests := true, laidLooks := .later }
def FnExactRectGapUptoCardSaid : Prop := Claim7.holds Tryd.pinned (.plain (OpenSpec.upto fnExactRectGapSpec)) fnExactRectGapUptoCard

/-- THE SECOND FORM's CARD OF 'laws.FnExactMoveRect'. -/
def fnExactMoveRectUptoCard : Claim7 := { stood := { row := fnExactMoveRectUptoRow, standIns := [], harness := (true, "8722622def38c084200a3da789ec525ff1565c7fd0dd4a1dec7b827af7f11564"), looks := false }, kinds := [], alts := [], laidByText := true, laidKinds := [.wider, .data], laidTests := true, laidLooks := .later }
def FnExactMoveRectUptoCardSaid : Prop := Claim7.holds Tryd.pinned (.plain (OpenSpec.upto fnExactMoveRectSpec)) fnExactMoveRectUptoCard

/-- THE SECOND FORM's CARD OF 'laws.FnBoolean'. -/
def fnBooleanUptoCard : Claim7 := { stood := { row := fnBooleanUptoRow, standIns := [], harness := (true, "8722622def38c084200a3da789ec525ff1565c7fd0dd4a1dec7b827af7f11564"), looks := false }, kinds := [], alts := [], laidByText := true, laidKinds := [.data, .data], laidTests := true, laidLooks := .later }
def FnBooleanUptoCardSaid : Prop := Claim7.holds Tryd.pinned (.plain (OpenSpec.upto fnBooleanSpec)) fnBooleanUptoCard

/-- THE SECOND FORM's CARD OF 'laws.FnDistributive'. -/
def fnDistributiveUptoCard : Claim7 := { stood := { row := fnDistributiveUptoRow, standIns := [], harness := (true, "8722622def38c084200a3da789ec525ff1565c7fd0dd4a1dec7b827af7f11564"), looks := false }, kinds := [], alts := [], laidByText := true, laidKinds := [.data, .data], laidTests := true, laidLooks := .later }
def FnDistributiveUptoCardSaid : Prop := Claim7.holds Tryd.pinned (.plain (OpenSpec.upto fnDistributiveSpec)) fnDistributiveUptoCard

/-- THE SECOND FORM's CARD OF 'laws.FnAreas'. -/
def fnAreasUptoCard : Claim7 := { stood := { row := fnAreasUptoRow, standIns := [], harness := (true, "8722622def38c084200a3da789ec525ff1565c7fd0dd4a1dec7b827af7f11564"), looks := false }, kinds := [], alts := [], laidByText := true, laidKinds := [.data, .data], laidTests := true, laidLooks := .later }
def FnAreasUptoCardSaid : Prop := Claim7.holds Tryd.pinned (.plain (OpenSpec.upto fnAreasSpec)) fnAreasUptoCard

/-- THE SECOND FORM's CARD OF 'laws.FnRegionOf'. -/
def fnRegionOfUptoCard : Claim7 := { stood := { row := fnRegionOfUptoRow, standIns := [], harness := (true, "8722622def38c084200a3da789ec525ff1565c7fd0dd4a1dec7b827af7f11564"), looks := false }, kinds := [], alts := [], laidByText := true, laidKinds := [.data, .data], laidTests := true, laidLooks := .later }
def FnRegionOfUptoCardSaid : Prop := Claim7.holds Tryd.pinned (.plain (OpenSpec.upto fnRegionOfSpec)) fnRegionOfUptoCard

/-- THE SECOND FORM's CARD OF 'laws.FnMoveRegions'. -/
def fnMoveRegionsUptoCard : Claim7 := { stood := { row := fnMoveRegionsUptoRow, standIns := [], harness := (true, "8722622def38c084200a3da789ec525ff1565c7fd0dd4a1dec7b827af7f11564"), looks := false }, kinds := [], alts := [], laidByText := true, laidKinds := [.data, .wider, .data], laidTests := true, laidLooks := .later }
def FnMoveRegionsUptoCardSaid : Prop := Claim7.holds Tryd.pinned (.plain (OpenSpec.upto fnMoveRegionsSpec)) fnMoveRegionsUptoCard
end Rows
end Go.Proofs.YtdcddneanbplpaaDoor
