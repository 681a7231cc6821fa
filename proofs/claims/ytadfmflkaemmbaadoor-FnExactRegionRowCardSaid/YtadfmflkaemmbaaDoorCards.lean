/-
  DERIVED. GIVEN WITH THE SEED: THE CARDS: each row of YtadfmflkaemmbaaDoorRows.lean that lists a variable, with what it lists TIED to the program's text (the seventh form; the later family's looks); each row that meets fmt, with fmt's text TOLD by the authors' own Lean function (tested against real Go, not proved from fmt's source: count such statements apart). THE CARD IS WHAT COUNTS. Prove the row's statement (the work); the ties are given (YtadfmflkaemmbaaDoorTie.lean); close each card by the builder's one call (the guide's Derived/Test/ToyasCard.lean, 'card_holds'). Laid BY PROGRAM, IN A SANDBOX (cutbox-door.mjs). By AI agents, Wed Nov 11 2026. No macro, syntax, notation, axiom, sorry.
-/
import Derived.Test.YtadfmflkaemmbaaDoorRows
import GoSem.ClaimSeven
namespace Go.Proofs.YtadfmflkaemmbaaDoor
namespace Rows

/-- THE TIED CARD OF 'laws.FnExactIsRegion'. -/
def fnExactIsRegionCard : Claim7 := { stood := { row := fnExactIsRegionRow, standIns := [], harness := (true, "549f5fc17d217d334bc86bc8e5327594e08e5c41840f4ef0dfc7377783f9f848"), looks := false }, kinds := [], alts := [], laidByText := true, laidKinds := [.data], laidTests := true, laidLooks := .later }
def FnExactIsRegionCardSaid : Prop := Claim7.holds Tryd.pinned (.plain (OpenSpec.ofChange fnExactIsRegionSpec)) fnExactIsRegionCard

/-- THE TIED CARD OF 'laws.FnExactRegionOf'. -/
def fnExactRegionOfCard : Claim7 := { stood := { row := fnExactRegionOfRow, standIns := [], harness := (true, "549f5fc17d217d334bc86bc8e5327594e08e5c41840f4ef0dfc7377783f9f848"), looks := false }, kinds := [], alts := [], laidByText := true, laidKinds := [.data], laidTests := true, laidLooks := .later }
def FnExactRegionOfCardSaid : Prop := Claim7.holds Tryd.pinned (.plain (OpenSpec.ofChange fnExactRegionOfSpec)) fnExactRegionOfCard

/-- THE TIED CARD OF 'laws.FnExactRegionArea'. -/
def fnExactRegionAreaCard : Claim7 := { stood := { row := fnExactRegionAreaRow, standIns := [], harness := (true, "549f5fc17d217d334bc86bc8e5327594e08e5c41840f4ef0dfc7377783f9f848"), looks := false }, kinds := [], alts := [], laidByText := true, laidKinds := [.data], laidTests := true, laidLooks := .later }
def FnExactRegionAreaCardSaid : Prop := Claim7.holds Tryd.pinned (.plain (OpenSpec.ofChange fnExactRegionAreaSpec)) fnExactRegionAreaCard

/-- THE TIED CARD OF 'laws.FnExactRegionContains'. -/
def fnExactRegionContainsCard : Claim7 := { stood := { row := fnExactRegionContainsRow, standIns := [], harness := (true, "549f5fc17d217d334bc86bc8e5327594e08e5c41840f4ef0dfc7377783f9f848"), looks := false }, kinds := [], alts := [], laidByText := true, laidKinds := [.data], laidTests := true, laidLooks := .later }
def FnExactRegionContainsCardSaid : Prop := Claim7.holds Tryd.pinned (.plain (OpenSpec.ofChange fnExactRegionContainsSpec)) fnExactRegionContainsCard

/-- THE TIED CARD OF 'laws.FnExactRegionBox'. -/
def fnExactRegionBoxCard : Claim7 := { stood := { row := fnExactRegionBoxRow, standIns := [], harness := (true, "549f5fc17d217d334bc86bc8e5327594e08e5c41840f4ef0dfc7377783f9f848"), looks := false }, kinds := [], alts := [], laidByText := true, laidKinds := [.data], laidTests := true, laidLooks := .later }
def FnExactRegionBoxCardSaid : Prop := Claim7.holds Tryd.pinned (.plain (OpenSpec.ofChange fnExactRegionBoxSpec)) fnExactRegionBoxCard

/-- THE TIED CARD OF 'laws.FnExactRegionRow'. -/
def fnExactRegionRowCard : Claim7 := { stood := { row := fnExactRegionRowRow, standIns := [], harness := (true, "549f5fc17d217d334bc86bc8e5327594e08e5c41840f4ef0dfc7377783f9f848"), looks := false }, kinds := [], alts := [], laidByText := true, laidKinds := [.data], laidTests := true, laidLooks := .later }
def FnExactRegionRowCardSaid : Prop := Claim7.holds Tryd.pinned (.plain (OpenSpec.ofChange fnExactRegionRowSpec)) fnExactRegionRowCard

/-- THE TIED CARD OF 'laws.FnExactClipRegion'. -/
def fnExactClipRegionCard : Claim7 := { stood := { row := fnExactClipRegionRow, standIns := [], harness := (true, "549f5fc17d217d334bc86bc8e5327594e08e5c41840f4ef0dfc7377783f9f848"), looks := false }, kinds := [], alts := [], laidByText := true, laidKinds := [.data], laidTests := true, laidLooks := .later }
def FnExactClipRegionCardSaid : Prop := Claim7.holds Tryd.pinned (.plain (OpenSpec.ofChange fnExactClipRegionSpec)) fnExactClipRegionCard

/-- THE TIED CARD OF 'laws.FnExactMoveRegion'. -/
def fnExactMoveRegionCard : Claim7 := { stood := { row := fnExactMoveRegionRow, standIns := [], harness := (true, "549f5fc17d217d334bc86bc8e5327594e08e5c41840f4ef0dfc7377783f9f848"), looks := false }, kinds := [], alts := [], laidByText := true, laidKinds := [.data, .wider], laidTests := true, laidLooks := .later }
def FnExactMoveRegionCardSaid : Prop := Claim7.holds Tryd.pinned (.plain (OpenSpec.ofChange fnExactMoveRegionSpec)) fnExactMoveRegionCard

/-- THE SECOND FORM's CARD OF 'laws.FnExactIsRegion'. -/
def fnExactIsRegionUptoCard : Claim7 := { stood := { row := fnExactIsRegionUptoRow, standIns := [], harness := (true, "549f5fc17d217d334bc86bc8e5327594e08e5c41840f4ef0dfc7377783f9f848"), looks := false }, kinds := [], alts := [], laidByText := true, laidKinds := [.data], laidTests := true, laidLooks := .later }
def FnExactIsRegionUptoCardSaid : Prop := Claim7.holds Tryd.pinned (.plain (OpenSpec.upto fnExactIsRegionSpec)) fnExactIsRegionUptoCard

/-- THE SECOND FORM's CARD OF 'laws.FnExactRegionOf'. -/
def fnExactRegionOfUptoCard : Claim7 := { stood := { row := fnExactRegionOfUptoRow, standIns := [], harness := (true, "549f5fc17d217d334bc86bc8e5327594e08e5c41840f4ef0dfc7377783f9f848"), looks := false }, kinds := [], alts := [], laidByText := true, laidKinds := [.data], laidTests := true, laidLooks := .later }
def FnExactRegionOfUptoCardSaid : Prop := Claim7.holds Tryd.pinned (.plain (OpenSpec.upto fnExactRegionOfSpec)) fnExactRegionOfUptoCard

/-- THE SECOND FORM's CARD OF 'laws.FnExactRegionArea'. -/
def fnExactRegionAreaUptoCard : Claim7 := { stood := { row := fnExactRegionAreaUptoRow, standIns := [], harness := (true, "549f5fc17d217d334bc86bc8e5327594e08e5c41840f4ef0dfc7377783f9f848"), looks := false }, kinds := [], alts := [], laidByText := true, laidKinds := [.data], laidTests := true, laidLooks := .later }
def FnExactRegionAreaUptoCardSaid : Prop := Claim7.holds Tryd.pinned (.plain (OpenSpec.upto fnExactRegionAreaSpec)) fnExactRegionAreaUptoCard

/-- THE SECOND FORM's CARD OF 'laws.FnExactRegionContains'. -/
def fnExactRegionContainsUptoCard : Claim7 := { stood := { row := fnExactRegionContainsUptoRow, standIns := [], harness := (true, "549f5fc17d217d334bc86bc8e5327594e08e5c41840f4ef0dfc7377783f9f848"), looks := false }, kinds := [], alts := [], laidByText := true, laidKinds := [.data], laidTests := true, laidLooks := .later }
def FnExactRegionContainsUptoCardSaid : Prop := Claim7.holds Tryd.pinned (.plain (OpenSpec.upto fnExactRegionContainsSpec)) fnExactRegionContainsUptoCard

/-- THE SECOND FORM's CARD OF 'laws.FnExactRegionBox'. -/
def fnExactRegionBoxUptoCard : Claim7 := { stood := { row := fnExactRegionBoxUptoRow, standIns := [], harness := (true, "549f5fc17d217d334bc86bc8e5327594e08e5c41840f4ef0dfc7377783f9f848"), looks := false }, kinds := [], alts := [], laidByText := true, laidKinds := [.data], laidTests := true, laidLooks := .later }
def FnExactRegionBoxUptoCardSaid : Prop := Claim7.holds Tryd.pinned (.plain (OpenSpec.upto fnExactRegionBoxSpec)) fnExactRegionBoxUptoCard

/-- THE SECOND FORM's CARD OF 'laws.FnExactRegionRow'. -/
def fnExactRegionRowUptoCard : Claim7 := { stood := { row := fnExactRegionRowUptoRow, standIns := [], harness := (true, "549f5fc17d217d334bc86bc8e5327594e08e5c41840f4ef0dfc7377783f9f848"), looks := false }, kinds := [], alts := [], laidByText := true, laidKinds := [.data], laidTests := true, laidLooks := .later }
def FnExactRegionRowUptoCardSaid : Prop := Claim7.holds Tryd.pinned (.plain (OpenSpec.upto fnExactRegionRowSpec)) fnExactRegionRowUptoCard

/-- THE SECOND FORM's CARD OF 'laws.FnExactClipRegion'. -/
def fnExactClipRegionUptoCard : Claim7 := { stood := { row := fnExactClipRegionUptoRow, standIns := [], harness := (true, "549f5fc17d217d334bc86bc8e5327594e08e5c41840f4ef0dfc7377783f9f848"), looks := false }, kinds := [], alts := [], laidByText := true, laidKinds := [.data], laidTests := true, laidLooks := .later }
def FnExactClipRegionUptoCardSaid : Prop := Claim7.holds Tryd.pinned (.plain (OpenSpec.upto fnExactClipRegionSpec)) fnExactClipRegionUptoCard

/-- THE SECOND FORM's CARD OF 'laws.FnExactMoveRegion'. -/
def fnExactMoveRegionUptoCard : Claim7 := { stood := { row := fnExactMoveRegionUptoRow, standIns := [], harness := (true, "549f5fc17d217d334bc86bc8e5327594e08e5c41840f4ef0dfc7377783f9f848"), looks := false }, kinds := [], alts := [], laidByText := true, laidKinds := [.data, .wider], laidTests := true, laidLooks := .later }
def FnExactMoveRegionUptoCardSaid : Prop := Claim7.holds Tryd.pinned (.plain (OpenSpec.upto fnExactMoveRegionSpec)) fnExactMoveRegionUptoCard
end Rows
end Go.Proofs.YtadfmflkaemmbaaDoor
