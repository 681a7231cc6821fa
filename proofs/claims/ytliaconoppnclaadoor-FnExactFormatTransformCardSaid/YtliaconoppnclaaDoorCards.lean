/-
  DERIVED. GIVEN WITH THE SEED: THE CARDS: each row of YtliaconoppnclaaDoorRows.lean that lists a variable, with what it lists TIED to the program's text (the seventh form; the later family's looks); each row that meets fmt, with fmt's text TOLD by the authors' own Lean function (tested against real Go, not proved from fmt's source: count such statements apart). THE CARD IS WHAT COUNTS. Prove the row's statement (the work); the ties are given (YtliaconoppnclaaDoorTie.lean); close each card by the builder's one call (the guide's Derived/Test/ToyasCard.lean, 'card_holds'). Laid BY PROGRAM, IN A SANDBOX (cutbox-door.mjs). By AI agents, Wed Nov 11 2026. No macro, syntax, notation, axiom, sorry.
-/
import Derived.Test.YtliaconoppnclaaDoorRows
import GoSem.ClaimSeven
namespace Go.Proofs.YtliaconoppnclaaDoor
namespace Rows

/-- THE TIED CARD OF 'laws.FnTransforms'. -/
def fnTransformsCard : Claim7 := { stood := { row := fnTransformsRow, standIns := [], harness := (true, "7cf69ffaf15267b2b975bd0b090d2fec74cf1d842945456b010e18c807037987"), looks := true }, kinds := [], alts := [], laidByText := true, laidKinds := [.wider], laidTests := true, laidLooks := .later }
def FnTransformsCardSaid : Prop := Claim7.holds Tryd.pinned (.plain (OpenSpec.ofChange fnTransformsSpec)) fnTransformsCard

/-- THE TIED CARD OF 'laws.FnTransformText'. -/
def fnTransformTextCard : Claim7 := { stood := { row := fnTransformTextRow, standIns := [], harness := (true, "7cf69ffaf15267b2b975bd0b090d2fec74cf1d842945456b010e18c807037987"), looks := true }, kinds := [], alts := [], laidByText := true, laidKinds := [.data, .data, .data, .data, .sentinel, .sentinel, .wider, .pinned], laidTests := true, laidLooks := .later }
def FnTransformTextCardSaid : Prop := Claim7.holds Tryd.pinned (.plain (OpenSpec.ofChange fnTransformTextSpec)) fnTransformTextCard

/-- THE TIED CARD OF 'laws.FnExactMovePoint'. -/
def fnExactMovePointCard : Claim7 := { stood := { row := fnExactMovePointRow, standIns := [], harness := (true, "7cf69ffaf15267b2b975bd0b090d2fec74cf1d842945456b010e18c807037987"), looks := true }, kinds := [], alts := [], laidByText := true, laidKinds := [.wider], laidTests := true, laidLooks := .later }
def FnExactMovePointCardSaid : Prop := Claim7.holds Tryd.pinned (.plain (OpenSpec.ofChange fnExactMovePointSpec)) fnExactMovePointCard

/-- THE TIED CARD OF 'laws.FnExactMoveUnitCell'. -/
def fnExactMoveUnitCellCard : Claim7 := { stood := { row := fnExactMoveUnitCellRow, standIns := [], harness := (true, "7cf69ffaf15267b2b975bd0b090d2fec74cf1d842945456b010e18c807037987"), looks := true }, kinds := [], alts := [], laidByText := true, laidKinds := [.wider], laidTests := true, laidLooks := .later }
def FnExactMoveUnitCellCardSaid : Prop := Claim7.holds Tryd.pinned (.plain (OpenSpec.ofChange fnExactMoveUnitCellSpec)) fnExactMoveUnitCellCard

/-- THE TIED CARD OF 'laws.FnExactComposeTransforms'. -/
def fnExactComposeTransformsCard : Claim7 := { stood := { row := fnExactComposeTransformsRow, standIns := [], harness := (true, "7cf69ffaf15267b2b975bd0b090d2fec74cf1d842945456b010e18c807037987"), looks := true }, kinds := [], alts := [], laidByText := true, laidKinds := [.wider], laidTests := true, laidLooks := .later }
def FnExactComposeTransformsCardSaid : Prop := Claim7.holds Tryd.pinned (.plain (OpenSpec.ofChange fnExactComposeTransformsSpec)) fnExactComposeTransformsCard

/-- THE TIED CARD OF 'laws.FnExactInvertTransform'. -/
def fnExactInvertTransformCard : Claim7 := { stood := { row := fnExactInvertTransformRow, standIns := [], harness := (true, "7cf69ffaf15267b2b975bd0b090d2fec74cf1d842945456b010e18c807037987"), looks := true }, kinds := [], alts := [], laidByText := true, laidKinds := [.wider], laidTests := true, laidLooks := .later }
def FnExactInvertTransformCardSaid : Prop := Claim7.holds Tryd.pinned (.plain (OpenSpec.ofChange fnExactInvertTransformSpec)) fnExactInvertTransformCard

/-- THE TIED CARD OF 'laws.FnExactComposeOrientations'. -/
def fnExactComposeOrientationsCard : Claim7 := { stood := { row := fnExactComposeOrientationsRow, standIns := [], harness := (true, "7cf69ffaf15267b2b975bd0b090d2fec74cf1d842945456b010e18c807037987"), looks := true }, kinds := [], alts := [], laidByText := true, laidKinds := [.wider], laidTests := true, laidLooks := .later }
def FnExactComposeOrientationsCardSaid : Prop := Claim7.holds Tryd.pinned (.plain (OpenSpec.ofChange fnExactComposeOrientationsSpec)) fnExactComposeOrientationsCard

/-- THE TIED CARD OF 'laws.FnExactFindTransform'. -/
def fnExactFindTransformCard : Claim7 := { stood := { row := fnExactFindTransformRow, standIns := [], harness := (true, "7cf69ffaf15267b2b975bd0b090d2fec74cf1d842945456b010e18c807037987"), looks := true }, kinds := [], alts := [], laidByText := true, laidKinds := [.wider], laidTests := true, laidLooks := .later }
def FnExactFindTransformCardSaid : Prop := Claim7.holds Tryd.pinned (.plain (OpenSpec.ofChange fnExactFindTransformSpec)) fnExactFindTransformCard

/-- THE TIED CARD OF 'laws.FnExactFormatTransform'. -/
def fnExactFormatTransformCard : Claim7 := { stood := { row := fnExactFormatTransformRow, standIns := [], harness := (true, "7cf69ffaf15267b2b975bd0b090d2fec74cf1d842945456b010e18c807037987"), looks := true }, kinds := [], alts := [], laidByText := true, laidKinds := [.data, .data, .data], laidTests := true, laidLooks := .later }
def FnExactFormatTransformCardSaid : Prop := Claim7.holds Tryd.pinned (.plain (OpenSpec.ofChange fnExactFormatTransformSpec)) fnExactFormatTransformCard

/-- THE TIED CARD OF 'laws.FnExactParseTransform'. -/
def fnExactParseTransformCard : Claim7 := { stood := { row := fnExactParseTransformRow, standIns := [], harness := (true, "7cf69ffaf15267b2b975bd0b090d2fec74cf1d842945456b010e18c807037987"), looks := true }, kinds := [], alts := [], laidByText := true, laidKinds := [.data, .data, .data, .data, .sentinel, .sentinel, .pinned], laidTests := true, laidLooks := .later }
def FnExactParseTransformCardSaid : Prop := Claim7.holds Tryd.pinned (.plain (OpenSpec.ofChange fnExactParseTransformSpec)) fnExactParseTransformCard

/-- THE SECOND FORM's CARD OF 'laws.FnTransforms'. -/
def fnTransformsUptoCard : Claim7 := { stood := { row := fnTransformsUptoRow, standIns := [], harness := (true, "7cf69ffaf15267b2b975bd0b090d2fec74cf1d842945456b010e18c807037987"), looks := true }, kinds := [], alts := [], laidByText := true, laidKinds := [.wider], laidTests := true, laidLooks := .later }
def FnTransformsUptoCardSaid : Prop := Claim7.holds Tryd.pinned (.plain (OpenSpec.upto fnTransformsSpec)) fnTransformsUptoCard

/-- THE SECOND FORM's CARD OF 'laws.FnTransformText'. -/
def fnTransformTextUptoCard : Claim7 := { stood := { row := fnTransformTextUptoRow, standIns := [], harness := (true, "7cf69ffaf15267b2b975bd0b090d2fec74cf1d842945456b010e18c807037987"), looks := true }, kinds := [], alts := [], laidByText := true, laidKinds := [.data, .data, .data, .data, .sentinel, .sentinel, .wider, .pinned], laidTests := true, laidLooks := .later }
def FnTransformTextUptoCardSaid : Prop := Claim7.holds Tryd.pinned (.plain (OpenSpec.upto fnTransformTextSpec)) fnTransformTextUptoCard

/-- THE SECOND FORM's CARD OF 'laws.FnExactMovePoint'. -/
def fnExactMovePointUptoCard : Claim7 := { stood := { row := fnExactMovePointUptoRow, standIns := [], harness := (true, "7cf69ffaf15267b2b975bd0b090d2fec74cf1d842945456b010e18c807037987"), looks := true }, kinds := [], alts := [], laidByText := true, laidKinds := [.wider], laidTests := true, laidLooks := .later }
def FnExactMovePointUptoCardSaid : Prop := Claim7.holds Tryd.pinned (.plain (OpenSpec.upto fnExactMovePointSpec)) fnExactMovePointUptoCard

/-- THE SECOND FORM's CARD OF 'laws.FnExactMoveUnitCell'. -/
def fnExactMoveUnitCellUptoCard : Claim7 := { stood := { row := fnExactMoveUnitCellUptoRow, standIns := [], harness := (true, "7cf69ffaf15267b2b975bd0b090d2fec74cf1d842945456b010e18c807037987"), looks := true }, kinds := [], alts := [], laidByText := true, laidKinds := [.wider], laidTests := true, laidLooks := .later }
def FnExactMoveUnitCellUptoCardSaid : Prop := Claim7.holds Tryd.pinned (.plain (OpenSpec.upto fnExactMoveUnitCellSpec)) fnExactMoveUnitCellUptoCard

/-- THE SECOND FORM's CARD OF 'laws.FnExactComposeTransforms'. -/
def fnExactComposeTransformsUptoCard : Claim7 := { stood := { row := fnExactComposeTransformsUptoRow, standIns := [], harness := (true, "7cf69ffaf15267b2b975bd0b090d2fec74cf1d842945456b010e18c807037987"), looks := true }, kinds := [], alts := [], laidByText := true, laidKinds := [.wider], laidTests := true, laidLooks := .later }
def FnExactComposeTransformsUptoCardSaid : Prop := Claim7.holds Tryd.pinned (.plain (OpenSpec.upto fnExactComposeTransformsSpec)) fnExactComposeTransformsUptoCard

/-- THE SECOND FORM's CARD OF 'laws.FnExactInvertTransform'. -/
def fnExactInvertTransformUptoCard : Claim7 := { stood := { row := fnExactInvertTransformUptoRow, standIns := [], harness := (true, "7cf69ffaf15267b2b975bd0b090d2fec74cf1d842945456b010e18c807037987"), looks := true }, kinds := [], alts := [], laidByText := true, laidKinds := [.wider], laidTests := true, laidLooks := .later }
def FnExactInvertTransformUptoCardSaid : Prop := Claim7.holds Tryd.pinned (.plain (OpenSpec.upto fnExactInvertTransformSpec)) fnExactInvertTransformUptoCard

/-- THE SECOND FORM's CARD OF 'laws.FnExactComposeOrientations'. -/
def fnExactComposeOrientationsUptoCard : Claim7 := { stood := { row := fnExactComposeOrientationsUptoRow, standIns := [], harness := (true, "7cf69ffaf15267b2b975bd0b090d2fec74cf1d842945456b010e18c807037987"), looks := true }, kinds := [], alts := [], laidByText := true, laidKinds := [.wider], laidTests := true, laidLooks := .later }
def FnExactComposeOrientationsUptoCardSaid : Prop := Claim7.holds Tryd.pinned (.plain (OpenSpec.upto fnExactComposeOrientationsSpec)) fnExactComposeOrientationsUptoCard

/-- THE SECOND FORM's CARD OF 'laws.FnExactFindTransform'. -/
def fnExactFindTransformUptoCard : Claim7 := { stood := { row := fnExactFindTransformUptoRow, standIns := [], harness := (true, "7cf69ffaf15267b2b975bd0b090d2fec74cf1d842945456b010e18c807037987"), looks := true }, kinds := [], alts := [], laidByText := true, laidKinds := [.wider], laidTests := true, laidLooks := .later }
def FnExactFindTransformUptoCardSaid : Prop := Claim7.holds Tryd.pinned (.plain (OpenSpec.upto fnExactFindTransformSpec)) fnExactFindTransformUptoCard

/-- THE SECOND FORM's CARD OF 'laws.FnExactFormatTransform'. -/
def fnExactFormatTransformUptoCard : Claim7 := { stood := { row := fnExactFormatTransformUptoRow, standIns := [], harness := (true, "7cf69ffaf15267b2b975bd0b090d2fec74cf1d842945456b010e18c807037987"), looks := true }, kinds := [], alts := [], laidByText := true, laidKinds := [.data, .data, .data], laidTests := true, laidLooks := .later }
def FnExactFormatTransformUptoCardSaid : Prop := Claim7.holds Tryd.pinned (.plain (OpenSpec.upto fnExactFormatTransformSpec)) fnExactFormatTransformUptoCard

/-- THE SECOND FORM's CARD OF 'laws.FnExactParseTransform'. -/
def fnExactParseTransformUptoCard : Claim7 := { stood := { row := fnExactParseTransformUptoRow, standIns := [], harness := (true, "7cf69ffaf15267b2b975bd0b090d2fec74cf1d842945456b010e18c807037987"), looks := true }, kinds := [], alts := [], laidByText := true, laidKinds := [.data, .data, .data, .data, .sentinel, .sentinel, .pinned], laidTests := true, laidLooks := .later }
def FnExactParseTransformUptoCardSaid : Prop := Claim7.holds Tryd.pinned (.plain (OpenSpec.upto fnExactParseTransformSpec)) fnExactParseTransformUptoCard
end Rows
end Go.Proofs.YtliaconoppnclaaDoor
