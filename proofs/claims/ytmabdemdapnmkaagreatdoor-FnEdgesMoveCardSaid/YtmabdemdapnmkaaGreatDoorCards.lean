/-
  DERIVED. GIVEN WITH THE SEED: THE CARDS: each row of YtmabdemdapnmkaaGreatDoorRows.lean that lists a variable, with what it lists TIED to the program's text (the seventh form; the later family's looks); each row that meets fmt, with fmt's text TOLD by the authors' own Lean function (tested against real Go, not proved from fmt's source: count such statements apart). THE CARD IS WHAT COUNTS. Prove the row's statement (the work); the ties are given (YtmabdemdapnmkaaGreatDoorTie.lean); close each card by the builder's one call (the guide's Derived/Test/ToyasCard.lean, 'card_holds'). Laid BY PROGRAM, IN A SANDBOX (cutbox-door.mjs). By AI agents, Wed Nov 11 2026. No macro, syntax, notation, axiom, sorry.
-/
import Derived.Test.YtmabdemdapnmkaaGreatDoorRows
import GoSem.ClaimSeven
namespace Go.Proofs.YtmabdemdapnmkaaGreatDoor
namespace Rows

/-- THE TIED CARD OF 'laws.FnEdges'. -/
def fnEdgesCard : Claim7 := { stood := { row := fnEdgesRow, standIns := [], harness := (true, "710db3be7ae06fb77a0927cc762461587b92dce3b56dc93b0463e1776d19c425"), looks := false }, kinds := [], alts := [], laidByText := true, laidKinds := [.data, .wider, .data], laidTests := true, laidLooks := .later }
def FnEdgesCardSaid : Prop := Claim7.holds Tryz.pinned (.plain (OpenSpec.ofChange fnEdgesSpec)) fnEdgesCard

/-- THE TIED CARD OF 'laws.FnEdgesMove'. -/
def fnEdgesMoveCard : Claim7 := { stood := { row := fnEdgesMoveRow, standIns := [], harness := (true, "710db3be7ae06fb77a0927cc762461587b92dce3b56dc93b0463e1776d19c425"), looks := false }, kinds := [], alts := [], laidByText := true, laidKinds := [.data, .wider, .data], laidTests := true, laidLooks := .later }
def FnEdgesMoveCardSaid : Prop := Claim7.holds Tryz.pinned (.plain (OpenSpec.ofChange fnEdgesMoveSpec)) fnEdgesMoveCard

/-- THE TIED CARD OF 'laws.FnExactBoundaryEdges'. -/
def fnExactBoundaryEdgesCard : Claim7 := { stood := { row := fnExactBoundaryEdgesRow, standIns := [], harness := (true, "710db3be7ae06fb77a0927cc762461587b92dce3b56dc93b0463e1776d19c425"), looks := false }, kinds := [], alts := [], laidByText := true, laidKinds := [.data, .wider, .data], laidTests := true, laidLooks := .later }
def FnExactBoundaryEdgesCardSaid : Prop := Claim7.holds Tryz.pinned (.plain (OpenSpec.ofChange fnExactBoundaryEdgesSpec)) fnExactBoundaryEdgesCard

/-- THE TIED CARD OF 'laws.FnExactRegionFromEdges'. -/
def fnExactRegionFromEdgesCard : Claim7 := { stood := { row := fnExactRegionFromEdgesRow, standIns := [], harness := (true, "710db3be7ae06fb77a0927cc762461587b92dce3b56dc93b0463e1776d19c425"), looks := false }, kinds := [], alts := [], laidByText := true, laidKinds := [.data, .wider, .data], laidTests := true, laidLooks := .later }
def FnExactRegionFromEdgesCardSaid : Prop := Claim7.holds Tryz.pinned (.plain (OpenSpec.ofChange fnExactRegionFromEdgesSpec)) fnExactRegionFromEdgesCard

/-- THE TIED CARD OF 'laws.FnExactFacingEdges'. -/
def fnExactFacingEdgesCard : Claim7 := { stood := { row := fnExactFacingEdgesRow, standIns := [], harness := (true, "710db3be7ae06fb77a0927cc762461587b92dce3b56dc93b0463e1776d19c425"), looks := false }, kinds := [], alts := [], laidByText := true, laidKinds := [.data, .wider, .data], laidTests := true, laidLooks := .later }
def FnExactFacingEdgesCardSaid : Prop := Claim7.holds Tryz.pinned (.plain (OpenSpec.ofChange fnExactFacingEdgesSpec)) fnExactFacingEdgesCard

/-- THE SECOND FORM's CARD OF 'laws.FnEdges'. -/
def fnEdgesUptoCard : Claim7 := { stood := { row := fnEdgesUptoRow, standIns := [], harness := (true, "710db3be7ae06fb77a0927cc762461587b92dce3b56dc93b0463e1776d19c425"), looks := false }, kinds := [], alts := [], laidByText := true, laidKinds := [.data, .wider, .data], laidTests := true, laidLooks := .later }
def FnEdgesUptoCardSaid : Prop := Claim7.holds Tryz.pinned (.plain (OpenSpec.upto fnEdgesSpec)) fnEdgesUptoCard

/-- THE SECOND FORM's CARD OF 'laws.FnEdgesMove'. -/
def fnEdgesMoveUptoCard : Claim7 := { stood := { row := fnEdgesMoveUptoRow, standIns := [], harness := (true, "710db3be7ae06fb77a0927cc762461587b92dce3b56dc93b0463e1776d19c425"), looks := false }, kinds := [], alts := [], laidByText := true, laidKinds := [.data, .wider, .data], laidTests := true, laidLooks := .later }
def FnEdgesMoveUptoCardSaid : Prop := Claim7.holds Tryz.pinned (.plain (OpenSpec.upto fnEdgesMoveSpec)) fnEdgesMoveUptoCard

/-- THE SECOND FORM's CARD OF 'laws.FnExactBoundaryEdges'. -/
def fnExactBoundaryEdgesUptoCard : Claim7 := { stood := { row := fnExactBoundaryEdgesUptoRow, standIns := [], harness := (true, "710db3be7ae06fb77a0927cc762461587b92dce3b56dc93b0463e1776d19c425"), looks := false }, kinds := [], alts := [], laidByText := true, laidKinds := [.data, .wider, .data], laidTests := true, laidLooks := .later }
def FnExactBoundaryEdgesUptoCardSaid : Prop := Claim7.holds Tryz.pinned (.plain (OpenSpec.upto fnExactBoundaryEdgesSpec)) fnExactBoundaryEdgesUptoCard

/-- THE SECOND FORM's CARD OF 'laws.FnExactRegionFromEdges'. -/
def fnExactRegionFromEdgesUptoCard : Claim7 := { stood := { row := fnExactRegionFromEdgesUptoRow, standIns := [], harness := (true, "710db3be7ae06fb77a0927cc762461587b92dce3b56dc93b0463e1776d19c425"), looks := false }, kinds := [], alts := [], laidByText := true, laidKinds := [.data, .wider, .data], laidTests := true, laidLooks := .later }
def FnExactRegionFromEdgesUptoCardSaid : Prop := Claim7.holds Tryz.pinned (.plain (OpenSpec.upto fnExactRegionFromEdgesSpec)) fnExactRegionFromEdgesUptoCard

/-- THE SECOND FORM's CARD OF 'laws.FnExactFacingEdges'. -/
def fnExactFacingEdgesUptoCard : Claim7 := { stood := { row := fnExactFacingEdgesUptoRow, standIns := [], harness := (true, "710db3be7ae06fb77a0927cc762461587b92dce3b56dc93b0463e1776d19c425"), looks := false }, kinds := [], alts := [], laidByText := true, laidKinds := [.data, .wider, .data], laidTests := true, laidLooks := .later }
def FnExactFacingEdgesUptoCardSaid : Prop := Claim7.holds Tryz.pinned (.plain (OpenSpec.upto fnExactFacingEdgesSpec)) fnExactFacingEdgesUptoCard
end Rows
end Go.Proofs.YtmabdemdapnmkaaGreatDoor
