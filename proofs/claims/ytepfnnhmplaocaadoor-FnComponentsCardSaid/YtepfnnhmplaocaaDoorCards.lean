/-
  DERIVED. GIVEN WITH THE SEED: THE CARDS: each row of YtepfnnhmplaocaaDoorRows.lean that lists a variable, with what it lists TIED to the program's text (the seventh form; the later family's looks); each row that meets fmt, with fmt's text TOLD by the authors' own Lean function (tested against real Go, not proved from fmt's source: count such statements apart). THE CARD IS WHAT COUNTS. Prove the row's statement (the work); the ties are given (YtepfnnhmplaocaaDoorTie.lean); close each card by the builder's one call (the guide's Derived/Test/ToyasCard.lean, 'card_holds'). Laid BY PROGRAM, IN A SANDBOX (cutbox-door.mjs). By AI agents, Wed Nov 11 2026. No macro, syntax, notation, axiom, sorry.
-/
import Derived.Test.YtepfnnhmplaocaaDoorRows
import GoSem.ClaimSeven
namespace Go.Proofs.YtepfnnhmplaocaaDoor
namespace Rows

/-- THE TIED CARD OF 'laws.FnExactCornerCounts'. -/
def fnExactCornerCountsCard : Claim7 := { stood := { row := fnExactCornerCountsRow, standIns := [], harness := (true, "00df2a178bd7b93603220f2e6bc5aebc24e2ab21160cb1e57d51f25f4752a29e"), looks := false }, kinds := [], alts := [], laidByText := true, laidKinds := [.data, .data], laidTests := true, laidLooks := .later }
def FnExactCornerCountsCardSaid : Prop := Claim7.holds Tryd.pinned (.plain (OpenSpec.ofChange fnExactCornerCountsSpec)) fnExactCornerCountsCard

/-- THE TIED CARD OF 'laws.FnEuler'. -/
def fnEulerCard : Claim7 := { stood := { row := fnEulerRow, standIns := [], harness := (true, "00df2a178bd7b93603220f2e6bc5aebc24e2ab21160cb1e57d51f25f4752a29e"), looks := false }, kinds := [], alts := [], laidByText := true, laidKinds := [.data, .data], laidTests := true, laidLooks := .later }
def FnEulerCardSaid : Prop := Claim7.holds Tryd.pinned (.plain (OpenSpec.ofChange fnEulerSpec)) fnEulerCard

/-- THE TIED CARD OF 'laws.FnComponents'. -/
def fnComponentsCard : Claim7 := { stood := { row := fnComponentsRow, standIns := [], harness := (true, "00df2a178bd7b93603220f2e6bc5aebc24e2ab21160cb1e57d51f25f4752a29e"), looks := false }, kinds := [], alts := [], laidByText := true, laidKinds := [.data, .data], laidTests := true, laidLooks := .later }
def FnComponentsCardSaid : Prop := Claim7.holds Tryd.pinned (.plain (OpenSpec.ofChange fnComponentsSpec)) fnComponentsCard

/-- THE TIED CARD OF 'laws.FnHoles'. -/
def fnHolesCard : Claim7 := { stood := { row := fnHolesRow, standIns := [], harness := (true, "00df2a178bd7b93603220f2e6bc5aebc24e2ab21160cb1e57d51f25f4752a29e"), looks := false }, kinds := [], alts := [], laidByText := true, laidKinds := [.data, .data], laidTests := true, laidLooks := .later }
def FnHolesCardSaid : Prop := Claim7.holds Tryd.pinned (.plain (OpenSpec.ofChange fnHolesSpec)) fnHolesCard

/-- THE TIED CARD OF 'laws.FnExactComponents'. -/
def fnExactComponentsCard : Claim7 := { stood := { row := fnExactComponentsRow, standIns := [], harness := (true, "00df2a178bd7b93603220f2e6bc5aebc24e2ab21160cb1e57d51f25f4752a29e"), looks := false }, kinds := [], alts := [], laidByText := true, laidKinds := [.data, .data], laidTests := true, laidLooks := .later }
def FnExactComponentsCardSaid : Prop := Claim7.holds Tryd.pinned (.plain (OpenSpec.ofChange fnExactComponentsSpec)) fnExactComponentsCard

/-- THE TIED CARD OF 'laws.FnExactComponentCount'. -/
def fnExactComponentCountCard : Claim7 := { stood := { row := fnExactComponentCountRow, standIns := [], harness := (true, "00df2a178bd7b93603220f2e6bc5aebc24e2ab21160cb1e57d51f25f4752a29e"), looks := false }, kinds := [], alts := [], laidByText := true, laidKinds := [.data, .data], laidTests := true, laidLooks := .later }
def FnExactComponentCountCardSaid : Prop := Claim7.holds Tryd.pinned (.plain (OpenSpec.ofChange fnExactComponentCountSpec)) fnExactComponentCountCard

/-- THE TIED CARD OF 'laws.FnExactComponentAt'. -/
def fnExactComponentAtCard : Claim7 := { stood := { row := fnExactComponentAtRow, standIns := [], harness := (true, "00df2a178bd7b93603220f2e6bc5aebc24e2ab21160cb1e57d51f25f4752a29e"), looks := false }, kinds := [], alts := [], laidByText := true, laidKinds := [.data, .data], laidTests := true, laidLooks := .later }
def FnExactComponentAtCardSaid : Prop := Claim7.holds Tryd.pinned (.plain (OpenSpec.ofChange fnExactComponentAtSpec)) fnExactComponentAtCard

/-- THE TIED CARD OF 'laws.FnExactIsConnected'. -/
def fnExactIsConnectedCard : Claim7 := { stood := { row := fnExactIsConnectedRow, standIns := [], harness := (true, "00df2a178bd7b93603220f2e6bc5aebc24e2ab21160cb1e57d51f25f4752a29e"), looks := false }, kinds := [], alts := [], laidByText := true, laidKinds := [.data, .data], laidTests := true, laidLooks := .later }
def FnExactIsConnectedCardSaid : Prop := Claim7.holds Tryd.pinned (.plain (OpenSpec.ofChange fnExactIsConnectedSpec)) fnExactIsConnectedCard

/-- THE TIED CARD OF 'laws.FnExactLargestComponent'. -/
def fnExactLargestComponentCard : Claim7 := { stood := { row := fnExactLargestComponentRow, standIns := [], harness := (true, "00df2a178bd7b93603220f2e6bc5aebc24e2ab21160cb1e57d51f25f4752a29e"), looks := false }, kinds := [], alts := [], laidByText := true, laidKinds := [.data, .data], laidTests := true, laidLooks := .later }
def FnExactLargestComponentCardSaid : Prop := Claim7.holds Tryd.pinned (.plain (OpenSpec.ofChange fnExactLargestComponentSpec)) fnExactLargestComponentCard

/-- THE TIED CARD OF 'laws.FnExactSelectOverlapping'. -/
def fnExactSelectOverlappingCard : Claim7 := { stood := { row := fnExactSelectOverlappingRow, standIns := [], harness := (true, "00df2a178bd7b93603220f2e6bc5aebc24e2ab21160cb1e57d51f25f4752a29e"), looks := false }, kinds := [], alts := [], laidByText := true, laidKinds := [.data, .data], laidTests := true, laidLooks := .later }
def FnExactSelectOverlappingCardSaid : Prop := Claim7.holds Tryd.pinned (.plain (OpenSpec.ofChange fnExactSelectOverlappingSpec)) fnExactSelectOverlappingCard

/-- THE TIED CARD OF 'laws.FnExactSelectSmall'. -/
def fnExactSelectSmallCard : Claim7 := { stood := { row := fnExactSelectSmallRow, standIns := [], harness := (true, "00df2a178bd7b93603220f2e6bc5aebc24e2ab21160cb1e57d51f25f4752a29e"), looks := false }, kinds := [], alts := [], laidByText := true, laidKinds := [.data, .data], laidTests := true, laidLooks := .later }
def FnExactSelectSmallCardSaid : Prop := Claim7.holds Tryd.pinned (.plain (OpenSpec.ofChange fnExactSelectSmallSpec)) fnExactSelectSmallCard

/-- THE TIED CARD OF 'laws.FnExactHoles'. -/
def fnExactHolesCard : Claim7 := { stood := { row := fnExactHolesRow, standIns := [], harness := (true, "00df2a178bd7b93603220f2e6bc5aebc24e2ab21160cb1e57d51f25f4752a29e"), looks := false }, kinds := [], alts := [], laidByText := true, laidKinds := [.data, .data], laidTests := true, laidLooks := .later }
def FnExactHolesCardSaid : Prop := Claim7.holds Tryd.pinned (.plain (OpenSpec.ofChange fnExactHolesSpec)) fnExactHolesCard

/-- THE TIED CARD OF 'laws.FnExactFillHoles'. -/
def fnExactFillHolesCard : Claim7 := { stood := { row := fnExactFillHolesRow, standIns := [], harness := (true, "00df2a178bd7b93603220f2e6bc5aebc24e2ab21160cb1e57d51f25f4752a29e"), looks := false }, kinds := [], alts := [], laidByText := true, laidKinds := [.data, .data], laidTests := true, laidLooks := .later }
def FnExactFillHolesCardSaid : Prop := Claim7.holds Tryd.pinned (.plain (OpenSpec.ofChange fnExactFillHolesSpec)) fnExactFillHolesCard

/-- THE SECOND FORM's CARD OF 'laws.FnExactCornerCounts'. -/
def fnExactCornerCountsUptoCard : Claim7 := { stood := { row := fnExactCornerCountsUptoRow, standIns := [], harness := (true, "00df2a178bd7b93603220f2e6bc5aebc24e2ab21160cb1e57d51f25f4752a29e"), looks := false }, kinds := [], alts := [], laidByText := true, laidKinds := [.data, .data], laidTests := true, laidLooks := .later }
def FnExactCornerCountsUptoCardSaid : Prop := Claim7.holds Tryd.pinned (.plain (OpenSpec.upto fnExactCornerCountsSpec)) fnExactCornerCountsUptoCard

/-- THE SECOND FORM's CARD OF 'laws.FnEuler'. -/
def fnEulerUptoCard : Claim7 := { stood := { row := fnEulerUptoRow, standIns := [], harness := (true, "00df2a178bd7b93603220f2e6bc5aebc24e2ab21160cb1e57d51f25f4752a29e"), looks := false }, kinds := [], alts := [], laidByText := true, laidKinds := [.data, .data], laidTests := true, laidLooks := .later }
def FnEulerUptoCardSaid : Prop := Claim7.holds Tryd.pinned (.plain (OpenSpec.upto fnEulerSpec)) fnEulerUptoCard

/-- THE SECOND FORM's CARD OF 'laws.FnComponents'. -/
def fnComponentsUptoCard : Claim7 := { stood := { row := fnComponentsUptoRow, standIns := [], harness := (true, "00df2a178bd7b93603220f2e6bc5aebc24e2ab21160cb1e57d51f25f4752a29e"), looks := false }, kinds := [], alts := [], laidByText := true, laidKinds := [.data, .data], laidTests := true, laidLooks := .later }
def FnComponentsUptoCardSaid : Prop := Claim7.holds Tryd.pinned (.plain (OpenSpec.upto fnComponentsSpec)) fnComponentsUptoCard

/-- THE SECOND FORM's CARD OF 'laws.FnHoles'. -/
def fnHolesUptoCard : Claim7 := { stood := { row := fnHolesUptoRow, standIns := [], harness := (true, "00df2a178bd7b93603220f2e6bc5aebc24e2ab21160cb1e57d51f25f4752a29e"), looks := false }, kinds := [], alts := [], laidByText := true, laidKinds := [.data, .data], laidTests := true, laidLooks := .later }
def FnHolesUptoCardSaid : Prop := Claim7.holds Tryd.pinned (.plain (OpenSpec.upto fnHolesSpec)) fnHolesUptoCard

/-- THE SECOND FORM's CARD OF 'laws.FnExactComponents'. -/
def fnExactComponentsUptoCard : Claim7 := { stood := { row := fnExactComponentsUptoRow, standIns := [], harness := (true, "00df2a178bd7b93603220f2e6bc5aebc24e2ab21160cb1e57d51f25f4752a29e"), looks := false }, kinds := [], alts := [], laidByText := true, laidKinds := [.data, .data], laidTests := true, laidLooks := .later }
def FnExactComponentsUptoCardSaid : Prop := Claim7.holds Tryd.pinned (.plain (OpenSpec.upto fnExactComponentsSpec)) fnExactComponentsUptoCard

/-- THE SECOND FORM's CARD OF 'laws.FnExactComponentCount'. -/
def fnExactComponentCountUptoCard : Claim7 := { stood := { row := fnExactComponentCountUptoRow, standIns := [], harness := (true, "00df2a178bd7b93603220f2e6bc5aebc24e2ab21160cb1e57d51f25f4752a29e"), looks := false }, kinds := [], alts := [], laidByText := true, laidKinds := [.data, .data], laidTests := true, laidLooks := .later }
def FnExactComponentCountUptoCardSaid : Prop := Claim7.holds Tryd.pinned (.plain (OpenSpec.upto fnExactComponentCountSpec)) fnExactComponentCountUptoCard

/-- THE SECOND FORM's CARD OF 'laws.FnExactComponentAt'. -/
def fnExactComponentAtUptoCard : Claim7 := { stood := { row := fnExactComponentAtUptoRow, standIns := [], harness := (true, "00df2a178bd7b93603220f2e6bc5aebc24e2ab21160cb1e57d51f25f4752a29e"), looks := false }, kinds := [], alts := [], laidByText := true, laidKinds := [.data, .data], laidTests := true, laidLooks := .later }
def FnExactComponentAtUptoCardSaid : Prop := Claim7.holds Tryd.pinned (.plain (OpenSpec.upto fnExactComponentAtSpec)) fnExactComponentAtUptoCard

/-- THE SECOND FORM's CARD OF 'laws.FnExactIsConnected'. -/
def fnExactIsConnectedUptoCard : Claim7 := { stood := { row := fnExactIsConnectedUptoRow, standIns := [], harness := (true, "00df2a178bd7b93603220f2e6bc5aebc24e2ab21160cb1e57d51f25f4752a29e"), looks := false }, kinds := [], alts := [], laidByText := true, laidKinds := [.data, .data], laidTests := true, laidLooks := .later }
def FnExactIsConnectedUptoCardSaid : Prop := Claim7.holds Tryd.pinned (.plain (OpenSpec.upto fnExactIsConnectedSpec)) fnExactIsConnectedUptoCard

/-- THE SECOND FORM's CARD OF 'laws.FnExactLargestComponent'. -/
def fnExactLargestComponentUptoCard : Claim7 := { stood := { row := fnExactLargestComponentUptoRow, standIns := [], harness := (true, "00df2a178bd7b93603220f2e6bc5aebc24e2ab21160cb1e57d51f25f4752a29e"), looks := false }, kinds := [], alts := [], laidByText := true, laidKinds := [.data, .data], laidTests := true, laidLooks := .later }
def FnExactLargestComponentUptoCardSaid : Prop := Claim7.holds Tryd.pinned (.plain (OpenSpec.upto fnExactLargestComponentSpec)) fnExactLargestComponentUptoCard

/-- THE SECOND FORM's CARD OF 'laws.FnExactSelectOverlapping'. -/
def fnExactSelectOverlappingUptoCard : Claim7 := { stood := { row := fnExactSelectOverlappingUptoRow, standIns := [], harness := (true, "00df2a178bd7b93603220f2e6bc5aebc24e2ab21160cb1e57d51f25f4752a29e"), looks := false }, kinds := [], alts := [], laidByText := true, laidKinds := [.data, .data], laidTests := true, laidLooks := .later }
def FnExactSelectOverlappingUptoCardSaid : Prop := Claim7.holds Tryd.pinned (.plain (OpenSpec.upto fnExactSelectOverlappingSpec)) fnExactSelectOverlappingUptoCard

/-- THE SECOND FORM's CARD OF 'laws.FnExactSelectSmall'. -/
def fnExactSelectSmallUptoCard : Claim7 := { stood := { row := fnExactSelectSmallUptoRow, standIns := [], harness := (true, "00df2a178bd7b93603220f2e6bc5aebc24e2ab21160cb1e57d51f25f4752a29e"), looks := false }, kinds := [], alts := [], laidByText := true, laidKinds := [.data, .data], laidTests := true, laidLooks := .later }
def FnExactSelectSmallUptoCardSaid : Prop := Claim7.holds Tryd.pinned (.plain (OpenSpec.upto fnExactSelectSmallSpec)) fnExactSelectSmallUptoCard

/-- THE SECOND FORM's CARD OF 'laws.FnExactHoles'. -/
def fnExactHolesUptoCard : Claim7 := { stood := { row := fnExactHolesUptoRow, standIns := [], harness := (true, "00df2a178bd7b93603220f2e6bc5aebc24e2ab21160cb1e57d51f25f4752a29e"), looks := false }, kinds := [], alts := [], laidByText := true, laidKinds := [.data, .data], laidTests := true, laidLooks := .later }
def FnExactHolesUptoCardSaid : Prop := Claim7.holds Tryd.pinned (.plain (OpenSpec.upto fnExactHolesSpec)) fnExactHolesUptoCard

/-- THE SECOND FORM's CARD OF 'laws.FnExactFillHoles'. -/
def fnExactFillHolesUptoCard : Claim7 := { stood := { row := fnExactFillHolesUptoRow, standIns := [], harness := (true, "00df2a178bd7b93603220f2e6bc5aebc24e2ab21160cb1e57d51f25f4752a29e"), looks := false }, kinds := [], alts := [], laidByText := true, laidKinds := [.data, .data], laidTests := true, laidLooks := .later }
def FnExactFillHolesUptoCardSaid : Prop := Claim7.holds Tryd.pinned (.plain (OpenSpec.upto fnExactFillHolesSpec)) fnExactFillHolesUptoCard
end Rows
end Go.Proofs.YtepfnnhmplaocaaDoor
