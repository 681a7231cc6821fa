/-
  DERIVED. GIVEN WITH THE SEED: THE CARDS: each row of YtlbanaoabifaiaaDoorRows.lean that lists a variable, with what it lists TIED to the program's text (the seventh form; the later family's looks); each row that meets fmt, with fmt's text TOLD by the authors' own Lean function (tested against real Go, not proved from fmt's source: count such statements apart). THE CARD IS WHAT COUNTS. Prove the row's statement (the work); the ties are given (YtlbanaoabifaiaaDoorTie.lean); close each card by the builder's one call (the guide's Derived/Test/ToyasCard.lean, 'card_holds'). Laid BY PROGRAM, IN A SANDBOX (cutbox-door.mjs). By AI agents, Wed Nov 11 2026. No macro, syntax, notation, axiom, sorry.
-/
import Derived.Test.YtlbanaoabifaiaaDoorRows
import GoSem.ClaimSeven
namespace Go.Proofs.YtlbanaoabifaiaaDoor
namespace Rows

/-- THE TIED CARD OF 'laws.FnTransformText'. -/
def fnTransformTextCard : Claim7 := { stood := { row := fnTransformTextRow, standIns := [], harness := (true, "8a58fcf0524422b85bc4562e034f2e5e884559c9ad6a44a32ff6e243284357bd"), looks := true }, kinds := [], alts := [], laidByText := true, laidKinds := [.data, .data, .data, .data, .sentinel, .sentinel, .wider, .pinned], laidTests := true, laidLooks := .later }
def FnTransformTextCardSaid : Prop := Claim7.holds Tryd.pinned (.plain (OpenSpec.ofChange fnTransformTextSpec)) fnTransformTextCard

/-- THE TIED CARD OF 'laws.FnExactParseTransform'. -/
def fnExactParseTransformCard : Claim7 := { stood := { row := fnExactParseTransformRow, standIns := [], harness := (true, "8a58fcf0524422b85bc4562e034f2e5e884559c9ad6a44a32ff6e243284357bd"), looks := true }, kinds := [], alts := [], laidByText := true, laidKinds := [.data, .data, .data, .data, .sentinel, .sentinel, .pinned], laidTests := true, laidLooks := .later }
def FnExactParseTransformCardSaid : Prop := Claim7.holds Tryd.pinned (.plain (OpenSpec.ofChange fnExactParseTransformSpec)) fnExactParseTransformCard

/-- THE TIED CARD OF 'laws.FnExactMoveRect'. -/
def fnExactMoveRectCard : Claim7 := { stood := { row := fnExactMoveRectRow, standIns := [], harness := (true, "8a58fcf0524422b85bc4562e034f2e5e884559c9ad6a44a32ff6e243284357bd"), looks := true }, kinds := [], alts := [], laidByText := true, laidKinds := [.wider], laidTests := true, laidLooks := .later }
def FnExactMoveRectCardSaid : Prop := Claim7.holds Tryd.pinned (.plain (OpenSpec.ofChange fnExactMoveRectSpec)) fnExactMoveRectCard

/-- THE SECOND FORM's CARD OF 'laws.FnTransformText'. -/
def fnTransformTextUptoCard : Claim7 := { stood := { row := fnTransformTextUptoRow, standIns := [], harness := (true, "8a58fcf0524422b85bc4562e034f2e5e884559c9ad6a44a32ff6e243284357bd"), looks := true }, kinds := [], alts := [], laidByText := true, laidKinds := [.data, .data, .data, .data, .sentinel, .sentinel, .wider, .pinned], laidTests := true, laidLooks := .later }
def FnTransformTextUptoCardSaid : Prop := Claim7.holds Tryd.pinned (.plain (OpenSpec.upto fnTransformTextSpec)) fnTransformTextUptoCard

/-- THE SECOND FORM's CARD OF 'laws.FnExactParseTransform'. -/
def fnExactParseTransformUptoCard : Claim7 := { stood := { row := fnExactParseTransformUptoRow, standIns := [], harness := (true, "8a58fcf0524422b85bc4562e034f2e5e884559c9ad6a44a32ff6e243284357bd"), looks := true }, kinds := [], alts := [], laidByText := true, laidKinds := [.data, .data, .data, .data, .sentinel, .sentinel, .pinned], laidTests := true, laidLooks := .later }
def FnExactParseTransformUptoCardSaid : Prop := Claim7.holds Tryd.pinned (.plain (OpenSpec.upto fnExactParseTransformSpec)) fnExactParseTransformUptoCard

/-- THE SECOND FORM's CARD OF 'laws.FnExactMoveRect'. -/
def fnExactMoveRectUptoCard : Claim7 := { stood := { row := fnExactMoveRectUptoRow, standIns := [], harness := (true, "8a58fcf0524422b85bc4562e034f2e5e884559c9ad6a44a32ff6e243284357bd"), looks := true }, kinds := [], alts := [], laidByText := true, laidKinds := [.wider], laidTests := true, laidLooks := .later }
def FnExactMoveRectUptoCardSaid : Prop := Claim7.holds Tryd.pinned (.plain (OpenSpec.upto fnExactMoveRectSpec)) fnExactMoveRectUptoCard
end Rows
end Go.Proofs.YtlbanaoabifaiaaDoor
