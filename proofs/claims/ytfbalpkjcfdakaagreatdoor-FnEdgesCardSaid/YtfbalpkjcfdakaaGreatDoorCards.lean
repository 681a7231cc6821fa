/-
  DERIVED. GIVEN WITH THE SEED: THE CARDS: each row of YtfbalpkjcfdakaaGreatDoorRows.lean that lists a variable, with what it lists TIED to the program's text (the seventh form; the later family's looks); each row that meets fmt, with fmt's text TOLD by the authors' own Lean function (tested against real Go, not proved from fmt's source: count such statements apart). THE CARD IS WHAT COUNTS. Prove the row's statement (the work); the ties are given (YtfbalpkjcfdakaaGreatDoorTie.lean); close each card by the builder's one call (the guide's Derived/Test/ToyasCard.lean, 'card_holds'). Laid BY PROGRAM, IN A SANDBOX (cutbox-door.mjs). By AI agents, Wed Nov 11 2026. No macro, syntax, notation, axiom, sorry.
-/
import Derived.Test.YtfbalpkjcfdakaaGreatDoorRows
import GoSem.ClaimSeven
namespace Go.Proofs.YtfbalpkjcfdakaaGreatDoor
namespace Rows

/-- THE TIED CARD OF 'laws.FnExactRegionPolygons'. -/
def fnExactRegionPolygonsCard : Claim7 := { stood := { row := fnExactRegionPolygonsRow, standIns := [], harness := (true, "59a8b33a8513cefbb20811836b55911a6c079b2bb56522c620922daea4890324"), looks := false }, kinds := [], alts := [], laidByText := true, laidKinds := [.data, .wider, .data], laidTests := true, laidLooks := .later }
def FnExactRegionPolygonsCardSaid : Prop := Claim7.holds Tryz.pinned (.plain (OpenSpec.ofChange fnExactRegionPolygonsSpec)) fnExactRegionPolygonsCard

/-- THE TIED CARD OF 'laws.FnPolygons'. -/
def fnPolygonsCard : Claim7 := { stood := { row := fnPolygonsRow, standIns := [], harness := (true, "59a8b33a8513cefbb20811836b55911a6c079b2bb56522c620922daea4890324"), looks := false }, kinds := [], alts := [], laidByText := true, laidKinds := [.data, .wider, .data], laidTests := true, laidLooks := .later }
def FnPolygonsCardSaid : Prop := Claim7.holds Tryz.pinned (.plain (OpenSpec.ofChange fnPolygonsSpec)) fnPolygonsCard

/-- THE TIED CARD OF 'laws.FnExactRegionFromEdges'. -/
def fnExactRegionFromEdgesCard : Claim7 := { stood := { row := fnExactRegionFromEdgesRow, standIns := [], harness := (true, "59a8b33a8513cefbb20811836b55911a6c079b2bb56522c620922daea4890324"), looks := false }, kinds := [], alts := [], laidByText := true, laidKinds := [.data, .wider, .data], laidTests := true, laidLooks := .later }
def FnExactRegionFromEdgesCardSaid : Prop := Claim7.holds Tryz.pinned (.plain (OpenSpec.ofChange fnExactRegionFromEdgesSpec)) fnExactRegionFromEdgesCard

/-- THE TIED CARD OF 'laws.FnEdges'. -/
def fnEdgesCard : Claim7 := { stood := { row := fnEdgesRow, standIns := [], harness := (true, "59a8b33a8513cefbb20811836b55911a6c079b2bb56522c620922daea4890324"), looks := false }, kinds := [], alts := [], laidByText := true, laidKinds := [.data, .wider, .data], laidTests := true, laidLooks := .later }
def FnEdgesCardSaid : Prop := Claim7.holds Tryz.pinned (.plain (OpenSpec.ofChange fnEdgesSpec)) fnEdgesCard

/-- THE TIED CARD OF 'laws.FnExactFacingEdges'. -/
def fnExactFacingEdgesCard : Claim7 := { stood := { row := fnExactFacingEdgesRow, standIns := [], harness := (true, "59a8b33a8513cefbb20811836b55911a6c079b2bb56522c620922daea4890324"), looks := false }, kinds := [], alts := [], laidByText := true, laidKinds := [.data, .wider, .data], laidTests := true, laidLooks := .later }
def FnExactFacingEdgesCardSaid : Prop := Claim7.holds Tryz.pinned (.plain (OpenSpec.ofChange fnExactFacingEdgesSpec)) fnExactFacingEdgesCard

/-- THE SECOND FORM's CARD OF 'laws.FnExactRegionPolygons'. -/
def fnExactRegionPolygonsUptoCard : Claim7 := { stood := { row := fnExactRegionPolygonsUptoRow, standIns := [], harness := (true, "59a8b33a8513cefbb20811836b55911a6c079b2bb56522c620922daea4890324"), looks := false }, kinds := [], alts := [], laidByText := true, laidKinds := [.data, .wider, .data], laidTests := true, laidLooks := .later }
def FnExactRegionPolygonsUptoCardSaid : Prop := Claim7.holds Tryz.pinned (.plain (OpenSpec.upto fnExactRegionPolygonsSpec)) fnExactRegionPolygonsUptoCard

/-- THE SECOND FORM's CARD OF 'laws.FnPolygons'. -/
def fnPolygonsUptoCard : Claim7 := { stood := { row := fnPolygonsUptoRow, standIns := [], harness := (true, "59a8b33a8513cefbb20811836b55911a6c079b2bb56522c620922daea4890324"), looks := false }, kinds := [], alts := [], laidByText := true, laidKinds := [.data, .wider, .data], laidTests := true, laidLooks := .later }
def FnPolygonsUptoCardSaid : Prop := Claim7.holds Tryz.pinned (.plain (OpenSpec.upto fnPolygonsSpec)) fnPolygonsUptoCard

/-- THE SECOND FORM's CARD OF 'laws.FnExactRegionFromEdges'. -/
def fnExactRegionFromEdgesUptoCard : Claim7 := { stood := { row := fnExactRegionFromEdgesUptoRow, standIns := [], harness := (true, "59a8b33a8513cefbb20811836b55911a6c079b2bb56522c620922daea4890324"), looks := false }, kinds := [], alts := [], laidByText := true, laidKinds := [.data, .wider, .data], laidTests := true, laidLooks := .later }
def FnExactRegionFromEdgesUptoCardSaid : Prop := Claim7.holds Tryz.pinned (.plain (OpenSpec.upto fnExactRegionFromEdgesSpec)) fnExactRegionFromEdgesUptoCard

/-- THE SECOND FORM's CARD OF 'laws.FnEdges'. -/
def fnEdgesUptoCard : Claim7 := { stood := { row := fnEdgesUptoRow, standIns := [], harness := (true, "59a8b33a8513cefbb20811836b55911a6c079b2bb56522c620922daea4890324"), looks := false }, kinds := [], alts := [], laidByText := true, laidKinds := [.data, .wider, .data], laidTests := true, laidLooks := .later }
def FnEdgesUptoCardSaid : Prop := Claim7.holds Tryz.pinned (.plain (OpenSpec.upto fnEdgesSpec)) fnEdgesUptoCard

/-- THE SECOND FORM's CARD OF 'laws.FnExactFacingEdges'. -/
def fnExactFacingEdgesUptoCard : Claim7 := { stood := { row := fnExactFacingEdgesUptoRow, standIns := [], harness := (true, "59a8b33a8513cefbb20811836b55911a6c079b2bb56522c620922daea4890324"), looks := false }, kinds := [], alts := [], laidByText := true, laidKinds := [.data, .wider, .data], laidTests := true, laidLooks := .later }
def FnExactFacingEdgesUptoCardSaid : Prop := Claim7.holds Tryz.pinned (.plain (OpenSpec.upto fnExactFacingEdgesSpec)) fnExactFacingEdgesUptoCard
end Rows
end Go.Proofs.YtfbalpkjcfdakaaGreatDoor
