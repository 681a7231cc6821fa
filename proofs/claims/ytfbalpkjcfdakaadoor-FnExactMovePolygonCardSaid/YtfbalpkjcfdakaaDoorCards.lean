/-
  DERIVED. GIVEN WITH THE SEED: THE CARDS: each row of YtfbalpkjcfdakaaDoorRows.lean that lists a variable, with what it lists TIED to the program's text (the seventh form; the later family's looks); each row that meets fmt, with fmt's text TOLD by the authors' own Lean function (tested against real Go, not proved from fmt's source: count such statements apart). THE CARD IS WHAT COUNTS. Prove the row's statement (the work); the ties are given (YtfbalpkjcfdakaaDoorTie.lean); close each card by the builder's one call (the guide's Derived/Test/ToyasCard.lean, 'card_holds'). Laid BY PROGRAM, IN A SANDBOX (cutbox-door.mjs). By AI agents, Wed Nov 11 2026. No macro, syntax, notation, axiom, sorry.
-/
import Derived.Test.YtfbalpkjcfdakaaDoorRows
import GoSem.ClaimSeven
namespace Go.Proofs.YtfbalpkjcfdakaaDoor
namespace Rows

/-- THE TIED CARD OF 'laws.FnExactMovePolygon'. -/
def fnExactMovePolygonCard : Claim7 := { stood := { row := fnExactMovePolygonRow, standIns := [], harness := (true, "3fa16921bac3eb12d1c9af0ad99e990dc802409126dcadf8f43e0276f17e6a3b"), looks := false }, kinds := [], alts := [], laidByText := true, laidKinds := [.wider], laidTests := true, laidLooks := .later }
def FnExactMovePolygonCardSaid : Prop := Claim7.holds Tryd.pinned (.plain (OpenSpec.ofChange fnExactMovePolygonSpec)) fnExactMovePolygonCard

/-- THE TIED CARD OF 'laws.FnExactPolygonContains'. -/
def fnExactPolygonContainsCard : Claim7 := { stood := { row := fnExactPolygonContainsRow, standIns := [], harness := (true, "3fa16921bac3eb12d1c9af0ad99e990dc802409126dcadf8f43e0276f17e6a3b"), looks := false }, kinds := [], alts := [], laidByText := true, laidKinds := [.data, .data], laidTests := true, laidLooks := .later }
def FnExactPolygonContainsCardSaid : Prop := Claim7.holds Tryd.pinned (.plain (OpenSpec.ofChange fnExactPolygonContainsSpec)) fnExactPolygonContainsCard

/-- THE TIED CARD OF 'laws.FnExactPolygonRegion'. -/
def fnExactPolygonRegionCard : Claim7 := { stood := { row := fnExactPolygonRegionRow, standIns := [], harness := (true, "3fa16921bac3eb12d1c9af0ad99e990dc802409126dcadf8f43e0276f17e6a3b"), looks := false }, kinds := [], alts := [], laidByText := true, laidKinds := [.data], laidTests := true, laidLooks := .later }
def FnExactPolygonRegionCardSaid : Prop := Claim7.holds Tryd.pinned (.plain (OpenSpec.ofChange fnExactPolygonRegionSpec)) fnExactPolygonRegionCard

/-- THE TIED CARD OF 'laws.FnPolygonMove'. -/
def fnPolygonMoveCard : Claim7 := { stood := { row := fnPolygonMoveRow, standIns := [], harness := (true, "3fa16921bac3eb12d1c9af0ad99e990dc802409126dcadf8f43e0276f17e6a3b"), looks := false }, kinds := [], alts := [], laidByText := true, laidKinds := [.data, .wider, .data], laidTests := true, laidLooks := .later }
def FnPolygonMoveCardSaid : Prop := Claim7.holds Tryd.pinned (.plain (OpenSpec.ofChange fnPolygonMoveSpec)) fnPolygonMoveCard

/-- THE TIED CARD OF 'laws.FnExactCornerCounts'. -/
def fnExactCornerCountsCard : Claim7 := { stood := { row := fnExactCornerCountsRow, standIns := [], harness := (true, "3fa16921bac3eb12d1c9af0ad99e990dc802409126dcadf8f43e0276f17e6a3b"), looks := false }, kinds := [], alts := [], laidByText := true, laidKinds := [.data, .data], laidTests := true, laidLooks := .later }
def FnExactCornerCountsCardSaid : Prop := Claim7.holds Tryd.pinned (.plain (OpenSpec.ofChange fnExactCornerCountsSpec)) fnExactCornerCountsCard

/-- THE TIED CARD OF 'laws.FnHoles'. -/
def fnHolesCard : Claim7 := { stood := { row := fnHolesRow, standIns := [], harness := (true, "3fa16921bac3eb12d1c9af0ad99e990dc802409126dcadf8f43e0276f17e6a3b"), looks := false }, kinds := [], alts := [], laidByText := true, laidKinds := [.data, .data], laidTests := true, laidLooks := .later }
def FnHolesCardSaid : Prop := Claim7.holds Tryd.pinned (.plain (OpenSpec.ofChange fnHolesSpec)) fnHolesCard

/-- THE TIED CARD OF 'laws.FnEuler'. -/
def fnEulerCard : Claim7 := { stood := { row := fnEulerRow, standIns := [], harness := (true, "3fa16921bac3eb12d1c9af0ad99e990dc802409126dcadf8f43e0276f17e6a3b"), looks := false }, kinds := [], alts := [], laidByText := true, laidKinds := [.data, .data], laidTests := true, laidLooks := .later }
def FnEulerCardSaid : Prop := Claim7.holds Tryd.pinned (.plain (OpenSpec.ofChange fnEulerSpec)) fnEulerCard

/-- THE SECOND FORM's CARD OF 'laws.FnExactMovePolygon'. -/
def fnExactMovePolygonUptoCard : Claim7 := { stood := { row := fnExactMovePolygonUptoRow, standIns := [], harness := (true, "3fa16921bac3eb12d1c9af0ad99e990dc802409126dcadf8f43e0276f17e6a3b"), looks := false }, kinds := [], alts := [], laidByText := true, laidKinds := [.wider], laidTests := true, laidLooks := .later }
def FnExactMovePolygonUptoCardSaid : Prop := Claim7.holds Tryd.pinned (.plain (OpenSpec.upto fnExactMovePolygonSpec)) fnExactMovePolygonUptoCard

/-- THE SECOND FORM's CARD OF 'laws.FnExactPolygonContains'. -/
def fnExactPolygonContainsUptoCard : Claim7 := { stood := { row := fnExactPolygonContainsUptoRow, standIns := [], harness := (true, "3fa16921bac3eb12d1c9af0ad99e990dc802409126dcadf8f43e0276f17e6a3b"), looks := false }, kinds := [], alts := [], laidByText := true, laidKinds := [.data, .data], laidTests := true, laidLooks := .later }
def FnExactPolygonContainsUptoCardSaid : Prop := Claim7.holds Tryd.pinned (.plain (OpenSpec.upto fnExactPolygonContainsSpec)) fnExactPolygonContainsUptoCard

/-- THE SECOND FORM's CARD OF 'laws.FnExactPolygonRegion'. -/
def fnExactPolygonRegionUptoCard : Claim7 := { stood := { row := fnExactPolygonRegionUptoRow, standIns := [], harness := (true, "3fa16921bac3eb12d1c9af0ad99e990dc802409126dcadf8f43e0276f17e6a3b"), looks := false }, kinds := [], alts := [], laidByText := true, laidKinds := [.data], laidTests := true, laidLooks := .later }
def FnExactPolygonRegionUptoCardSaid : Prop := Claim7.holds Tryd.pinned (.plain (OpenSpec.upto fnExactPolygonRegionSpec)) fnExactPolygonRegionUptoCard

/-- THE SECOND FORM's CARD OF 'laws.FnPolygonMove'. -/
def fnPolygonMoveUptoCard : Claim7 := { stood := { row := fnPolygonMoveUptoRow, standIns := [], harness := (true, "3fa16921bac3eb12d1c9af0ad99e990dc802409126dcadf8f43e0276f17e6a3b"), looks := false }, kinds := [], alts := [], laidByText := true, laidKinds := [.data, .wider, .data], laidTests := true, laidLooks := .later }
def FnPolygonMoveUptoCardSaid : Prop := Claim7.holds Tryd.pinned (.plain (OpenSpec.upto fnPolygonMoveSpec)) fnPolygonMoveUptoCard

/-- THE SECOND FORM's CARD OF 'laws.FnExactCornerCounts'. -/
def fnExactCornerCountsUptoCard : Claim7 := { stood := { row := fnExactCornerCountsUptoRow, standIns := [], harness := (true, "3fa16921bac3eb12d1c9af0ad99e990dc802409126dcadf8f43e0276f17e6a3b"), looks := false }, kinds := [], alts := [], laidByText := true, laidKinds := [.data, .data], laidTests := true, laidLooks := .later }
def FnExactCornerCountsUptoCardSaid : Prop := Claim7.holds Tryd.pinned (.plain (OpenSpec.upto fnExactCornerCountsSpec)) fnExactCornerCountsUptoCard

/-- THE SECOND FORM's CARD OF 'laws.FnHoles'. -/
def fnHolesUptoCard : Claim7 := { stood := { row := fnHolesUptoRow, standIns := [], harness := (true, "3fa16921bac3eb12d1c9af0ad99e990dc802409126dcadf8f43e0276f17e6a3b"), looks := false }, kinds := [], alts := [], laidByText := true, laidKinds := [.data, .data], laidTests := true, laidLooks := .later }
def FnHolesUptoCardSaid : Prop := Claim7.holds Tryd.pinned (.plain (OpenSpec.upto fnHolesSpec)) fnHolesUptoCard

/-- THE SECOND FORM's CARD OF 'laws.FnEuler'. -/
def fnEulerUptoCard : Claim7 := { stood := { row := fnEulerUptoRow, standIns := [], harness := (true, "3fa16921bac3eb12d1c9af0ad99e990dc802409126dcadf8f43e0276f17e6a3b"), looks := false }, kinds := [], alts := [], laidByText := true, laidKinds := [.data, .data], laidTests := true, laidLooks := .later }
def FnEulerUptoCardSaid : Prop := Claim7.holds Tryd.pinned (.plain (OpenSpec.upto fnEulerSpec)) fnEulerUptoCard
end Rows
end Go.Proofs.YtfbalpkjcfdakaaDoor
