/-
  DERIVED. GIVEN WITH THE SEED: THE CARDS: each row of YtmabdemdapnmkaaDoorRows.lean that lists a variable, with what it lists TIED to the program's text (the seventh form; the later family's looks); each row that meets fmt, with fmt's text TOLD by the authors' own Lean function (tested against real Go, not proved from fmt's source: count such statements apart). THE CARD IS WHAT COUNTS. Prove the row's statement (the work); the ties are given (YtmabdemdapnmkaaDoorTie.lean); close each card by the builder's one call (the guide's Derived/Test/ToyasCard.lean, 'card_holds'). Laid BY PROGRAM, IN A SANDBOX (cutbox-door.mjs). By AI agents, Wed Nov 11 2026. No macro, syntax, notation, axiom, sorry.
-/
import Derived.Test.YtmabdemdapnmkaaDoorRows
import GoSem.ClaimSeven
namespace Go.Proofs.YtmabdemdapnmkaaDoor
namespace Rows

/-- THE TIED CARD OF 'laws.FnExactPerimeter'. -/
def fnExactPerimeterCard : Claim7 := { stood := { row := fnExactPerimeterRow, standIns := [], harness := (true, "ca2c2be2e4e903c78d28eaf07faa9f1f18e5253d2d7727d741f410aad3eef147"), looks := false }, kinds := [], alts := [], laidByText := true, laidKinds := [.data, .wider, .data], laidTests := true, laidLooks := .later }
def FnExactPerimeterCardSaid : Prop := Claim7.holds Tryd.pinned (.plain (OpenSpec.ofChange fnExactPerimeterSpec)) fnExactPerimeterCard

/-- THE TIED CARD OF 'laws.FnExactCornerCounts'. -/
def fnExactCornerCountsCard : Claim7 := { stood := { row := fnExactCornerCountsRow, standIns := [], harness := (true, "ca2c2be2e4e903c78d28eaf07faa9f1f18e5253d2d7727d741f410aad3eef147"), looks := false }, kinds := [], alts := [], laidByText := true, laidKinds := [.data, .data], laidTests := true, laidLooks := .later }
def FnExactCornerCountsCardSaid : Prop := Claim7.holds Tryd.pinned (.plain (OpenSpec.ofChange fnExactCornerCountsSpec)) fnExactCornerCountsCard

/-- THE TIED CARD OF 'laws.FnExactMoveEdge'. -/
def fnExactMoveEdgeCard : Claim7 := { stood := { row := fnExactMoveEdgeRow, standIns := [], harness := (true, "ca2c2be2e4e903c78d28eaf07faa9f1f18e5253d2d7727d741f410aad3eef147"), looks := false }, kinds := [], alts := [], laidByText := true, laidKinds := [.wider], laidTests := true, laidLooks := .later }
def FnExactMoveEdgeCardSaid : Prop := Claim7.holds Tryd.pinned (.plain (OpenSpec.ofChange fnExactMoveEdgeSpec)) fnExactMoveEdgeCard

/-- THE SECOND FORM's CARD OF 'laws.FnExactPerimeter'. -/
def fnExactPerimeterUptoCard : Claim7 := { stood := { row := fnExactPerimeterUptoRow, standIns := [], harness := (true, "ca2c2be2e4e903c78d28eaf07faa9f1f18e5253d2d7727d741f410aad3eef147"), looks := false }, kinds := [], alts := [], laidByText := true, laidKinds := [.data, .wider, .data], laidTests := true, laidLooks := .later }
def FnExactPerimeterUptoCardSaid : Prop := Claim7.holds Tryd.pinned (.plain (OpenSpec.upto fnExactPerimeterSpec)) fnExactPerimeterUptoCard

/-- THE SECOND FORM's CARD OF 'laws.FnExactCornerCounts'. -/
def fnExactCornerCountsUptoCard : Claim7 := { stood := { row := fnExactCornerCountsUptoRow, standIns := [], harness := (true, "ca2c2be2e4e903c78d28eaf07faa9f1f18e5253d2d7727d741f410aad3eef147"), looks := false }, kinds := [], alts := [], laidByText := true, laidKinds := [.data, .data], laidTests := true, laidLooks := .later }
def FnExactCornerCountsUptoCardSaid : Prop := Claim7.holds Tryd.pinned (.plain (OpenSpec.upto fnExactCornerCountsSpec)) fnExactCornerCountsUptoCard

/-- THE SECOND FORM's CARD OF 'laws.FnExactMoveEdge'. -/
def fnExactMoveEdgeUptoCard : Claim7 := { stood := { row := fnExactMoveEdgeUptoRow, standIns := [], harness := (true, "ca2c2be2e4e903c78d28eaf07faa9f1f18e5253d2d7727d741f410aad3eef147"), looks := false }, kinds := [], alts := [], laidByText := true, laidKinds := [.wider], laidTests := true, laidLooks := .later }
def FnExactMoveEdgeUptoCardSaid : Prop := Claim7.holds Tryd.pinned (.plain (OpenSpec.upto fnExactMoveEdgeSpec)) fnExactMoveEdgeUptoCard
end Rows
end Go.Proofs.YtmabdemdapnmkaaDoor
