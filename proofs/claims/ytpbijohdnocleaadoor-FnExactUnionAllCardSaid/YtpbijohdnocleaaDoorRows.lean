/-
  NARROWER THAN 'FOR EVERY INPUT', by the rows' own cells (each row's printed sentence says how): FnExactIsRegion: laid · FnExactRegionOf: laid · FnExactRegionArea: laid · FnExactRegionContains: laid · FnExactRegionBox: laid · FnExactRegionRow: laid · FnExactClipRegion: laid · FnExactMoveRegion: laid · FnExactUnion: laid · FnExactIntersection: laid · FnExactDifference: laid · FnExactSymmetricDifference: laid · FnExactComplement: laid · FnExactUnionAll: laid · FnExactCovers: laid · FnExactOverlaps: laid.
  DERIVED. THE GIVEN ROWS OF THIS SEAT. 16 by the template 'for every input the law returns true; each argument reads behind the call as it read before'; 0 by the template 'total and deterministic' (their statements: YtpbijohdnocleaaDoorTotals.lean).
  GIVEN WITH THE SEED: the statements are not yours to turn. If you find one false, say at which input.
  Laid BY PROGRAM, IN A SANDBOX (cutbox-rows.mjs): the forced cells as the released guide's own fill.sh prints them over the translation e842e225bbcba9e3… (all of the seat's roots in one cut). By AI agents, Wed Nov 11 2026. No macro, syntax, notation, axiom, sorry.
-/
import Derived.Test.YtpbijohdnocleaaDoorChecked
import GoSem.Claim
import GoSem.ClaimJoined
import GoSem.ClaimMapViews
import Derived.JoinedTies
import Derived.KernelRfl
namespace Go.Proofs.YtpbijohdnocleaaDoor
/- THE CELL 'sum', in the pinned program and in every row, IS THE sha256 OF THE DUMP (.gsa) THAT YtpbijohdnocleaaDoorProg.lean LOADS. Nothing in Lean hashes anything: it is a label: what it is worth is what the hold of that sum in a sandbox is worth. -/
noncomputable def Tryd.pinned : Pinned := { name := "ytpbijohdnocleaadoor", sum := "e842e225bbcba9e3719a976e7a9432b1585783e09e31b2b300598665a183c1fa", checked := Tryd.checked }
namespace Rows
def none {H : Type} : Left H := { results := [], args := [] }

/- WHAT THE LISTED PACKAGE-LEVEL VARIABLES READ AS WHEN THE CALL BEGINS. Each datum BY PROGRAM (the guide's laid-datum.mjs) off the statement by which the dump's own 'gosem.cut.vars' lays the variable. In a bare row this is a premise. The card (YtpbijohdnocleaaDoorCards.lean) ties it to the program's text. -/
def laid_math_bits_deBruijn64tab {H : Type} : DataW H := .agg [.lit (.int .u8 0), .lit (.int .u8 1), .lit (.int .u8 56), .lit (.int .u8 2), .lit (.int .u8 57), .lit (.int .u8 49), .lit (.int .u8 28), .lit (.int .u8 3), .lit (.int .u8 61), .lit (.int .u8 58), .lit (.int .u8 42), .lit (.int .u8 50), .lit (.int .u8 38), .lit (.int .u8 29), .lit (.int .u8 17), .lit (.int .u8 4), .lit (.int .u8 62), .lit (.int .u8 47), .lit (.int .u8 59), .lit (.int .u8 36), .lit (.int .u8 45), .lit (.int .u8 43), .lit (.int .u8 51), .lit (.int .u8 22), .lit (.int .u8 53), .lit (.int .u8 39), .lit (.int .u8 33), .lit (.int .u8 30), .lit (.int .u8 24), .lit (.int .u8 18), .lit (.int .u8 12), .lit (.int .u8 5), .lit (.int .u8 63), .lit (.int .u8 55), .lit (.int .u8 48), .lit (.int .u8 27), .lit (.int .u8 60), .lit (.int .u8 41), .lit (.int .u8 37), .lit (.int .u8 16), .lit (.int .u8 46), .lit (.int .u8 35), .lit (.int .u8 44), .lit (.int .u8 21), .lit (.int .u8 52), .lit (.int .u8 32), .lit (.int .u8 23), .lit (.int .u8 11), .lit (.int .u8 54), .lit (.int .u8 26), .lit (.int .u8 40), .lit (.int .u8 15), .lit (.int .u8 34), .lit (.int .u8 20), .lit (.int .u8 31), .lit (.int .u8 10), .lit (.int .u8 25), .lit (.int .u8 14), .lit (.int .u8 19), .lit (.int .u8 9), .lit (.int .u8 13), .lit (.int .u8 8), .lit (.int .u8 7), .lit (.int .u8 6)]
def laid_loop_example_g00890_impl_chip {H : Type} : DataW H := .agg [.lit (.int .i64 (-40)), .lit (.int .i64 (-40)), .lit (.int .i64 40), .lit (.int .i64 40)]
def laid_loop_example_g00890_impl_orientationMatrices {H : Type} : DataW H := .agg [.agg [.lit (.int .i64 1), .lit (.int .i64 0), .lit (.int .i64 0), .lit (.int .i64 1)], .agg [.lit (.int .i64 0), .lit (.int .i64 (-1)), .lit (.int .i64 1), .lit (.int .i64 0)], .agg [.lit (.int .i64 (-1)), .lit (.int .i64 0), .lit (.int .i64 0), .lit (.int .i64 (-1))], .agg [.lit (.int .i64 0), .lit (.int .i64 1), .lit (.int .i64 (-1)), .lit (.int .i64 0)], .agg [.lit (.int .i64 1), .lit (.int .i64 0), .lit (.int .i64 0), .lit (.int .i64 (-1))], .agg [.lit (.int .i64 0), .lit (.int .i64 1), .lit (.int .i64 1), .lit (.int .i64 0)], .agg [.lit (.int .i64 (-1)), .lit (.int .i64 0), .lit (.int .i64 0), .lit (.int .i64 1)], .agg [.lit (.int .i64 0), .lit (.int .i64 (-1)), .lit (.int .i64 (-1)), .lit (.int .i64 0)]]

/-- 'laws.FnExactIsRegion': WHATEVER THE INPUT: true; the input reads as it did. -/
def fnExactIsRegionSpec : ChangeSpec := { name := "fnExactIsRegion", vars := ["loop.example/g00890/impl.chip"], fn := fun _ => fun
  | [d, g1] => { results := [.lit (.bool true)], args := [d], vars := [g1] }
  | _ => none }
def fnExactIsRegionRow : OpenClaim := { program := "ytpbijohdnocleaadoor", sum := "e842e225bbcba9e3719a976e7a9432b1585783e09e31b2b300598665a183c1fa", func := "loop.example/g00890/laws.FnExactIsRegion", spec := "fnExactIsRegion", unfollowed := true, recurses := true, named := ["loop.example/g00890/impl.chip", "math/bits.deBruijn64tab"], apart := false, laid := [("math/bits.deBruijn64tab", laid_math_bits_deBruijn64tab), ("loop.example/g00890/impl.chip", laid_loop_example_g00890_impl_chip)] }
def FnExactIsRegionSaid : Prop := fnExactIsRegionRow.holds Tryd.pinned (OpenSpec.ofChange fnExactIsRegionSpec)

/-- ITS FALSE NEIGHBOUR: 'it returns false'. Refute it at one input. -/
def fnExactIsRegionWrong : ChangeSpec := { name := "fnExactIsRegion", vars := ["loop.example/g00890/impl.chip"], fn := fun _ => fun
  | [d, g1] => { results := [.lit (.bool false)], args := [d], vars := [g1] }
  | _ => none }
def FnExactIsRegionWrongFalsely : Prop := fnExactIsRegionRow.holds Tryd.pinned (OpenSpec.ofChange fnExactIsRegionWrong)

/-- 'laws.FnExactRegionOf': WHATEVER THE INPUT: true; the input reads as it did. -/
def fnExactRegionOfSpec : ChangeSpec := { name := "fnExactRegionOf", vars := ["loop.example/g00890/impl.chip"], fn := fun _ => fun
  | [d, g1] => { results := [.lit (.bool true)], args := [d], vars := [g1] }
  | _ => none }
def fnExactRegionOfRow : OpenClaim := { program := "ytpbijohdnocleaadoor", sum := "e842e225bbcba9e3719a976e7a9432b1585783e09e31b2b300598665a183c1fa", func := "loop.example/g00890/laws.FnExactRegionOf", spec := "fnExactRegionOf", unfollowed := true, recurses := true, named := ["loop.example/g00890/impl.chip", "math/bits.deBruijn64tab"], apart := false, laid := [("math/bits.deBruijn64tab", laid_math_bits_deBruijn64tab), ("loop.example/g00890/impl.chip", laid_loop_example_g00890_impl_chip)] }
def FnExactRegionOfSaid : Prop := fnExactRegionOfRow.holds Tryd.pinned (OpenSpec.ofChange fnExactRegionOfSpec)

/-- ITS FALSE NEIGHBOUR: 'it returns false'. Refute it at one input. -/
def fnExactRegionOfWrong : ChangeSpec := { name := "fnExactRegionOf", vars := ["loop.example/g00890/impl.chip"], fn := fun _ => fun
  | [d, g1] => { results := [.lit (.bool false)], args := [d], vars := [g1] }
  | _ => none }
def FnExactRegionOfWrongFalsely : Prop := fnExactRegionOfRow.holds Tryd.pinned (OpenSpec.ofChange fnExactRegionOfWrong)

/-- 'laws.FnExactRegionArea': WHATEVER THE INPUT: true; the input reads as it did. -/
def fnExactRegionAreaSpec : ChangeSpec := { name := "fnExactRegionArea", vars := ["loop.example/g00890/impl.chip"], fn := fun _ => fun
  | [d, g1] => { results := [.lit (.bool true)], args := [d], vars := [g1] }
  | _ => none }
def fnExactRegionAreaRow : OpenClaim := { program := "ytpbijohdnocleaadoor", sum := "e842e225bbcba9e3719a976e7a9432b1585783e09e31b2b300598665a183c1fa", func := "loop.example/g00890/laws.FnExactRegionArea", spec := "fnExactRegionArea", unfollowed := true, recurses := true, named := ["loop.example/g00890/impl.chip", "math/bits.deBruijn64tab"], apart := false, laid := [("math/bits.deBruijn64tab", laid_math_bits_deBruijn64tab), ("loop.example/g00890/impl.chip", laid_loop_example_g00890_impl_chip)] }
def FnExactRegionAreaSaid : Prop := fnExactRegionAreaRow.holds Tryd.pinned (OpenSpec.ofChange fnExactRegionAreaSpec)

/-- ITS FALSE NEIGHBOUR: 'it returns false'. Refute it at one input. -/
def fnExactRegionAreaWrong : ChangeSpec := { name := "fnExactRegionArea", vars := ["loop.example/g00890/impl.chip"], fn := fun _ => fun
  | [d, g1] => { results := [.lit (.bool false)], args := [d], vars := [g1] }
  | _ => none }
def FnExactRegionAreaWrongFalsely : Prop := fnExactRegionAreaRow.holds Tryd.pinned (OpenSpec.ofChange fnExactRegionAreaWrong)

/-- 'laws.FnExactRegionContains': WHATEVER THE INPUT: true; the input reads as it did. -/
def fnExactRegionContainsSpec : ChangeSpec := { name := "fnExactRegionContains", vars := ["loop.example/g00890/impl.chip"], fn := fun _ => fun
  | [d1, d2, d3, g1] => { results := [.lit (.bool true)], args := [d1, d2, d3], vars := [g1] }
  | _ => none }
def fnExactRegionContainsRow : OpenClaim := { program := "ytpbijohdnocleaadoor", sum := "e842e225bbcba9e3719a976e7a9432b1585783e09e31b2b300598665a183c1fa", func := "loop.example/g00890/laws.FnExactRegionContains", spec := "fnExactRegionContains", unfollowed := true, recurses := true, named := ["loop.example/g00890/impl.chip", "math/bits.deBruijn64tab"], apart := false, laid := [("math/bits.deBruijn64tab", laid_math_bits_deBruijn64tab), ("loop.example/g00890/impl.chip", laid_loop_example_g00890_impl_chip)] }
def FnExactRegionContainsSaid : Prop := fnExactRegionContainsRow.holds Tryd.pinned (OpenSpec.ofChange fnExactRegionContainsSpec)

/-- ITS FALSE NEIGHBOUR: 'it returns false'. Refute it at one input. -/
def fnExactRegionContainsWrong : ChangeSpec := { name := "fnExactRegionContains", vars := ["loop.example/g00890/impl.chip"], fn := fun _ => fun
  | [d1, d2, d3, g1] => { results := [.lit (.bool false)], args := [d1, d2, d3], vars := [g1] }
  | _ => none }
def FnExactRegionContainsWrongFalsely : Prop := fnExactRegionContainsRow.holds Tryd.pinned (OpenSpec.ofChange fnExactRegionContainsWrong)

/-- 'laws.FnExactRegionBox': WHATEVER THE INPUT: true; the input reads as it did. -/
def fnExactRegionBoxSpec : ChangeSpec := { name := "fnExactRegionBox", vars := ["loop.example/g00890/impl.chip"], fn := fun _ => fun
  | [d, g1] => { results := [.lit (.bool true)], args := [d], vars := [g1] }
  | _ => none }
def fnExactRegionBoxRow : OpenClaim := { program := "ytpbijohdnocleaadoor", sum := "e842e225bbcba9e3719a976e7a9432b1585783e09e31b2b300598665a183c1fa", func := "loop.example/g00890/laws.FnExactRegionBox", spec := "fnExactRegionBox", unfollowed := true, recurses := true, named := ["loop.example/g00890/impl.chip", "math/bits.deBruijn64tab"], apart := false, laid := [("math/bits.deBruijn64tab", laid_math_bits_deBruijn64tab), ("loop.example/g00890/impl.chip", laid_loop_example_g00890_impl_chip)] }
def FnExactRegionBoxSaid : Prop := fnExactRegionBoxRow.holds Tryd.pinned (OpenSpec.ofChange fnExactRegionBoxSpec)

/-- ITS FALSE NEIGHBOUR: 'it returns false'. Refute it at one input. -/
def fnExactRegionBoxWrong : ChangeSpec := { name := "fnExactRegionBox", vars := ["loop.example/g00890/impl.chip"], fn := fun _ => fun
  | [d, g1] => { results := [.lit (.bool false)], args := [d], vars := [g1] }
  | _ => none }
def FnExactRegionBoxWrongFalsely : Prop := fnExactRegionBoxRow.holds Tryd.pinned (OpenSpec.ofChange fnExactRegionBoxWrong)

/-- 'laws.FnExactRegionRow': WHATEVER THE INPUT: true; the input reads as it did. -/
def fnExactRegionRowSpec : ChangeSpec := { name := "fnExactRegionRow", vars := ["loop.example/g00890/impl.chip"], fn := fun _ => fun
  | [d1, d2, g1] => { results := [.lit (.bool true)], args := [d1, d2], vars := [g1] }
  | _ => none }
def fnExactRegionRowRow : OpenClaim := { program := "ytpbijohdnocleaadoor", sum := "e842e225bbcba9e3719a976e7a9432b1585783e09e31b2b300598665a183c1fa", func := "loop.example/g00890/laws.FnExactRegionRow", spec := "fnExactRegionRow", unfollowed := true, recurses := true, named := ["loop.example/g00890/impl.chip", "math/bits.deBruijn64tab"], apart := false, laid := [("math/bits.deBruijn64tab", laid_math_bits_deBruijn64tab), ("loop.example/g00890/impl.chip", laid_loop_example_g00890_impl_chip)] }
def FnExactRegionRowSaid : Prop := fnExactRegionRowRow.holds Tryd.pinned (OpenSpec.ofChange fnExactRegionRowSpec)

/-- ITS FALSE NEIGHBOUR: 'it returns false'. Refute it at one input. -/
def fnExactRegionRowWrong : ChangeSpec := { name := "fnExactRegionRow", vars := ["loop.example/g00890/impl.chip"], fn := fun _ => fun
  | [d1, d2, g1] => { results := [.lit (.bool false)], args := [d1, d2], vars := [g1] }
  | _ => none }
def FnExactRegionRowWrongFalsely : Prop := fnExactRegionRowRow.holds Tryd.pinned (OpenSpec.ofChange fnExactRegionRowWrong)

/-- 'laws.FnExactClipRegion': WHATEVER THE INPUT: true; the input reads as it did. -/
def fnExactClipRegionSpec : ChangeSpec := { name := "fnExactClipRegion", vars := ["loop.example/g00890/impl.chip"], fn := fun _ => fun
  | [d1, d2, g1] => { results := [.lit (.bool true)], args := [d1, d2], vars := [g1] }
  | _ => none }
def fnExactClipRegionRow : OpenClaim := { program := "ytpbijohdnocleaadoor", sum := "e842e225bbcba9e3719a976e7a9432b1585783e09e31b2b300598665a183c1fa", func := "loop.example/g00890/laws.FnExactClipRegion", spec := "fnExactClipRegion", unfollowed := true, recurses := true, named := ["loop.example/g00890/impl.chip", "math/bits.deBruijn64tab"], apart := false, laid := [("math/bits.deBruijn64tab", laid_math_bits_deBruijn64tab), ("loop.example/g00890/impl.chip", laid_loop_example_g00890_impl_chip)] }
def FnExactClipRegionSaid : Prop := fnExactClipRegionRow.holds Tryd.pinned (OpenSpec.ofChange fnExactClipRegionSpec)

/-- ITS FALSE NEIGHBOUR: 'it returns false'. Refute it at one input. -/
def fnExactClipRegionWrong : ChangeSpec := { name := "fnExactClipRegion", vars := ["loop.example/g00890/impl.chip"], fn := fun _ => fun
  | [d1, d2, g1] => { results := [.lit (.bool false)], args := [d1, d2], vars := [g1] }
  | _ => none }
def FnExactClipRegionWrongFalsely : Prop := fnExactClipRegionRow.holds Tryd.pinned (OpenSpec.ofChange fnExactClipRegionWrong)

/-- 'laws.FnExactMoveRegion': WHATEVER THE INPUT: true; the input reads as it did. -/
def fnExactMoveRegionSpec : ChangeSpec := { name := "fnExactMoveRegion", vars := ["loop.example/g00890/impl.chip", "loop.example/g00890/impl.orientationMatrices"], fn := fun _ => fun
  | [d1, d2, g1, g2] => { results := [.lit (.bool true)], args := [d1, d2], vars := [g1, g2] }
  | _ => none }
def fnExactMoveRegionRow : OpenClaim := { program := "ytpbijohdnocleaadoor", sum := "e842e225bbcba9e3719a976e7a9432b1585783e09e31b2b300598665a183c1fa", func := "loop.example/g00890/laws.FnExactMoveRegion", spec := "fnExactMoveRegion", unfollowed := true, recurses := true, named := ["loop.example/g00890/impl.chip", "math/bits.deBruijn64tab", "loop.example/g00890/impl.orientationMatrices"], apart := false, laid := [("math/bits.deBruijn64tab", laid_math_bits_deBruijn64tab), ("loop.example/g00890/impl.orientationMatrices", laid_loop_example_g00890_impl_orientationMatrices), ("loop.example/g00890/impl.chip", laid_loop_example_g00890_impl_chip)] }
def FnExactMoveRegionSaid : Prop := fnExactMoveRegionRow.holds Tryd.pinned (OpenSpec.ofChange fnExactMoveRegionSpec)

/-- ITS FALSE NEIGHBOUR: 'it returns false'. Refute it at one input. -/
def fnExactMoveRegionWrong : ChangeSpec := { name := "fnExactMoveRegion", vars := ["loop.example/g00890/impl.chip", "loop.example/g00890/impl.orientationMatrices"], fn := fun _ => fun
  | [d1, d2, g1, g2] => { results := [.lit (.bool false)], args := [d1, d2], vars := [g1, g2] }
  | _ => none }
def FnExactMoveRegionWrongFalsely : Prop := fnExactMoveRegionRow.holds Tryd.pinned (OpenSpec.ofChange fnExactMoveRegionWrong)

/-- 'laws.FnExactUnion': WHATEVER THE INPUT: true; the input reads as it did. -/
def fnExactUnionSpec : ChangeSpec := { name := "fnExactUnion", vars := ["loop.example/g00890/impl.chip"], fn := fun _ => fun
  | [d1, d2, g1] => { results := [.lit (.bool true)], args := [d1, d2], vars := [g1] }
  | _ => none }
def fnExactUnionRow : OpenClaim := { program := "ytpbijohdnocleaadoor", sum := "e842e225bbcba9e3719a976e7a9432b1585783e09e31b2b300598665a183c1fa", func := "loop.example/g00890/laws.FnExactUnion", spec := "fnExactUnion", unfollowed := true, recurses := true, named := ["loop.example/g00890/impl.chip", "math/bits.deBruijn64tab"], apart := false, laid := [("math/bits.deBruijn64tab", laid_math_bits_deBruijn64tab), ("loop.example/g00890/impl.chip", laid_loop_example_g00890_impl_chip)] }
def FnExactUnionSaid : Prop := fnExactUnionRow.holds Tryd.pinned (OpenSpec.ofChange fnExactUnionSpec)

/-- ITS FALSE NEIGHBOUR: 'it returns false'. Refute it at one input. -/
def fnExactUnionWrong : ChangeSpec := { name := "fnExactUnion", vars := ["loop.example/g00890/impl.chip"], fn := fun _ => fun
  | [d1, d2, g1] => { results := [.lit (.bool false)], args := [d1, d2], vars := [g1] }
  | _ => none }
def FnExactUnionWrongFalsely : Prop := fnExactUnionRow.holds Tryd.pinned (OpenSpec.ofChange fnExactUnionWrong)

/-- 'laws.FnExactIntersection': WHATEVER THE INPUT: true; the input reads as it did. -/
def fnExactIntersectionSpec : ChangeSpec := { name := "fnExactIntersection", vars := ["loop.example/g00890/impl.chip"], fn := fun _ => fun
  | [d1, d2, g1] => { results := [.lit (.bool true)], args := [d1, d2], vars := [g1] }
  | _ => none }
def fnExactIntersectionRow : OpenClaim := { program := "ytpbijohdnocleaadoor", sum := "e842e225bbcba9e3719a976e7a9432b1585783e09e31b2b300598665a183c1fa", func := "loop.example/g00890/laws.FnExactIntersection", spec := "fnExactIntersection", unfollowed := true, recurses := true, named := ["loop.example/g00890/impl.chip", "math/bits.deBruijn64tab"], apart := false, laid := [("math/bits.deBruijn64tab", laid_math_bits_deBruijn64tab), ("loop.example/g00890/impl.chip", laid_loop_example_g00890_impl_chip)] }
def FnExactIntersectionSaid : Prop := fnExactIntersectionRow.holds Tryd.pinned (OpenSpec.ofChange fnExactIntersectionSpec)

/-- ITS FALSE NEIGHBOUR: 'it returns false'. Refute it at one input. -/
def fnExactIntersectionWrong : ChangeSpec := { name := "fnExactIntersection", vars := ["loop.example/g00890/impl.chip"], fn := fun _ => fun
  | [d1, d2, g1] => { results := [.lit (.bool false)], args := [d1, d2], vars := [g1] }
  | _ => none }
def FnExactIntersectionWrongFalsely : Prop := fnExactIntersectionRow.holds Tryd.pinned (OpenSpec.ofChange fnExactIntersectionWrong)

/-- 'laws.FnExactDifference': WHATEVER THE INPUT: true; the input reads as it did. -/
def fnExactDifferenceSpec : ChangeSpec := { name := "fnExactDifference", vars := ["loop.example/g00890/impl.chip"], fn := fun _ => fun
  | [d1, d2, g1] => { results := [.lit (.bool true)], args := [d1, d2], vars := [g1] }
  | _ => none }
def fnExactDifferenceRow : OpenClaim := { program := "ytpbijohdnocleaadoor", sum := "e842e225bbcba9e3719a976e7a9432b1585783e09e31b2b300598665a183c1fa", func := "loop.example/g00890/laws.FnExactDifference", spec := "fnExactDifference", unfollowed := true, recurses := true, named := ["loop.example/g00890/impl.chip", "math/bits.deBruijn64tab"], apart := false, laid := [("math/bits.deBruijn64tab", laid_math_bits_deBruijn64tab), ("loop.example/g00890/impl.chip", laid_loop_example_g00890_impl_chip)] }
def FnExactDifferenceSaid : Prop := fnExactDifferenceRow.holds Tryd.pinned (OpenSpec.ofChange fnExactDifferenceSpec)

/-- ITS FALSE NEIGHBOUR: 'it returns false'. Refute it at one input. -/
def fnExactDifferenceWrong : ChangeSpec := { name := "fnExactDifference", vars := ["loop.example/g00890/impl.chip"], fn := fun _ => fun
  | [d1, d2, g1] => { results := [.lit (.bool false)], args := [d1, d2], vars := [g1] }
  | _ => none }
def FnExactDifferenceWrongFalsely : Prop := fnExactDifferenceRow.holds Tryd.pinned (OpenSpec.ofChange fnExactDifferenceWrong)

/-- 'laws.FnExactSymmetricDifference': WHATEVER THE INPUT: true; the input reads as it did. -/
def fnExactSymmetricDifferenceSpec : ChangeSpec := { name := "fnExactSymmetricDifference", vars := ["loop.example/g00890/impl.chip"], fn := fun _ => fun
  | [d1, d2, g1] => { results := [.lit (.bool true)], args := [d1, d2], vars := [g1] }
  | _ => none }
def fnExactSymmetricDifferenceRow : OpenClaim := { program := "ytpbijohdnocleaadoor", sum := "e842e225bbcba9e3719a976e7a9432b1585783e09e31b2b300598665a183c1fa", func := "loop.example/g00890/laws.FnExactSymmetricDifference", spec := "fnExactSymmetricDifference", unfollowed := true, recurses := true, named := ["loop.example/g00890/impl.chip", "math/bits.deBruijn64tab"], apart := false, laid := [("math/bits.deBruijn64tab", laid_math_bits_deBruijn64tab), ("loop.example/g00890/impl.chip", laid_loop_example_g00890_impl_chip)] }
def FnExactSymmetricDifferenceSaid : Prop := fnExactSymmetricDifferenceRow.holds Tryd.pinned (OpenSpec.ofChange fnExactSymmetricDifferenceSpec)

/-- ITS FALSE NEIGHBOUR: 'it returns false'. Refute it at one input. -/
def fnExactSymmetricDifferenceWrong : ChangeSpec := { name := "fnExactSymmetricDifference", vars := ["loop.example/g00890/impl.chip"], fn := fun _ => fun
  | [d1, d2, g1] => { results := [.lit (.bool false)], args := [d1, d2], vars := [g1] }
  | _ => none }
def FnExactSymmetricDifferenceWrongFalsely : Prop := fnExactSymmetricDifferenceRow.holds Tryd.pinned (OpenSpec.ofChange fnExactSymmetricDifferenceWrong)

/-- 'laws.FnExactComplement': WHATEVER THE INPUT: true; the input reads as it did. -/
def fnExactComplementSpec : ChangeSpec := { name := "fnExactComplement", vars := ["loop.example/g00890/impl.chip"], fn := fun _ => fun
  | [d, g1] => { results := [.lit (.bool true)], args := [d], vars := [g1] }
  | _ => none }
def fnExactComplementRow : OpenClaim := { program := "ytpbijohdnocleaadoor", sum := "e842e225bbcba9e3719a976e7a9432b1585783e09e31b2b300598665a183c1fa", func := "loop.example/g00890/laws.FnExactComplement", spec := "fnExactComplement", unfollowed := true, recurses := true, named := ["loop.example/g00890/impl.chip", "math/bits.deBruijn64tab"], apart := false, laid := [("math/bits.deBruijn64tab", laid_math_bits_deBruijn64tab), ("loop.example/g00890/impl.chip", laid_loop_example_g00890_impl_chip)] }
def FnExactComplementSaid : Prop := fnExactComplementRow.holds Tryd.pinned (OpenSpec.ofChange fnExactComplementSpec)

/-- ITS FALSE NEIGHBOUR: 'it returns false'. Refute it at one input. -/
def fnExactComplementWrong : ChangeSpec := { name := "fnExactComplement", vars := ["loop.example/g00890/impl.chip"], fn := fun _ => fun
  | [d, g1] => { results := [.lit (.bool false)], args := [d], vars := [g1] }
  | _ => none }
def FnExactComplementWrongFalsely : Prop := fnExactComplementRow.holds Tryd.pinned (OpenSpec.ofChange fnExactComplementWrong)

/-- 'laws.FnExactUnionAll': WHATEVER THE INPUT: true; the input reads as it did. -/
def fnExactUnionAllSpec : ChangeSpec := { name := "fnExactUnionAll", vars := ["loop.example/g00890/impl.chip"], fn := fun _ => fun
  | [d, g1] => { results := [.lit (.bool true)], args := [d], vars := [g1] }
  | _ => none }
def fnExactUnionAllRow : OpenClaim := { program := "ytpbijohdnocleaadoor", sum := "e842e225bbcba9e3719a976e7a9432b1585783e09e31b2b300598665a183c1fa", func := "loop.example/g00890/laws.FnExactUnionAll", spec := "fnExactUnionAll", unfollowed := true, recurses := true, named := ["loop.example/g00890/impl.chip", "math/bits.deBruijn64tab"], apart := false, laid := [("math/bits.deBruijn64tab", laid_math_bits_deBruijn64tab), ("loop.example/g00890/impl.chip", laid_loop_example_g00890_impl_chip)] }
def FnExactUnionAllSaid : Prop := fnExactUnionAllRow.holds Tryd.pinned (OpenSpec.ofChange fnExactUnionAllSpec)

/-- ITS FALSE NEIGHBOUR: 'it returns false'. Refute it at one input. -/
def fnExactUnionAllWrong : ChangeSpec := { name := "fnExactUnionAll", vars := ["loop.example/g00890/impl.chip"], fn := fun _ => fun
  | [d, g1] => { results := [.lit (.bool false)], args := [d], vars := [g1] }
  | _ => none }
def FnExactUnionAllWrongFalsely : Prop := fnExactUnionAllRow.holds Tryd.pinned (OpenSpec.ofChange fnExactUnionAllWrong)

/-- 'laws.FnExactCovers': WHATEVER THE INPUT: true; the input reads as it did. -/
def fnExactCoversSpec : ChangeSpec := { name := "fnExactCovers", vars := ["loop.example/g00890/impl.chip"], fn := fun _ => fun
  | [d1, d2, g1] => { results := [.lit (.bool true)], args := [d1, d2], vars := [g1] }
  | _ => none }
def fnExactCoversRow : OpenClaim := { program := "ytpbijohdnocleaadoor", sum := "e842e225bbcba9e3719a976e7a9432b1585783e09e31b2b300598665a183c1fa", func := "loop.example/g00890/laws.FnExactCovers", spec := "fnExactCovers", unfollowed := true, recurses := true, named := ["loop.example/g00890/impl.chip", "math/bits.deBruijn64tab"], apart := false, laid := [("math/bits.deBruijn64tab", laid_math_bits_deBruijn64tab), ("loop.example/g00890/impl.chip", laid_loop_example_g00890_impl_chip)] }
def FnExactCoversSaid : Prop := fnExactCoversRow.holds Tryd.pinned (OpenSpec.ofChange fnExactCoversSpec)

/-- ITS FALSE NEIGHBOUR: 'it returns false'. Refute it at one input. -/
def fnExactCoversWrong : ChangeSpec := { name := "fnExactCovers", vars := ["loop.example/g00890/impl.chip"], fn := fun _ => fun
  | [d1, d2, g1] => { results := [.lit (.bool false)], args := [d1, d2], vars := [g1] }
  | _ => none }
def FnExactCoversWrongFalsely : Prop := fnExactCoversRow.holds Tryd.pinned (OpenSpec.ofChange fnExactCoversWrong)

/-- 'laws.FnExactOverlaps': WHATEVER THE INPUT: true; the input reads as it did. -/
def fnExactOverlapsSpec : ChangeSpec := { name := "fnExactOverlaps", vars := ["loop.example/g00890/impl.chip"], fn := fun _ => fun
  | [d1, d2, g1] => { results := [.lit (.bool true)], args := [d1, d2], vars := [g1] }
  | _ => none }
def fnExactOverlapsRow : OpenClaim := { program := "ytpbijohdnocleaadoor", sum := "e842e225bbcba9e3719a976e7a9432b1585783e09e31b2b300598665a183c1fa", func := "loop.example/g00890/laws.FnExactOverlaps", spec := "fnExactOverlaps", unfollowed := true, recurses := true, named := ["loop.example/g00890/impl.chip", "math/bits.deBruijn64tab"], apart := false, laid := [("math/bits.deBruijn64tab", laid_math_bits_deBruijn64tab), ("loop.example/g00890/impl.chip", laid_loop_example_g00890_impl_chip)] }
def FnExactOverlapsSaid : Prop := fnExactOverlapsRow.holds Tryd.pinned (OpenSpec.ofChange fnExactOverlapsSpec)

/-- ITS FALSE NEIGHBOUR: 'it returns false'. Refute it at one input. -/
def fnExactOverlapsWrong : ChangeSpec := { name := "fnExactOverlaps", vars := ["loop.example/g00890/impl.chip"], fn := fun _ => fun
  | [d1, d2, g1] => { results := [.lit (.bool false)], args := [d1, d2], vars := [g1] }
  | _ => none }
def FnExactOverlapsWrongFalsely : Prop := fnExactOverlapsRow.holds Tryd.pinned (OpenSpec.ofChange fnExactOverlapsWrong)

/- THE SECOND FORM. 'bulk': how many values and letters a reading holds, each counted each time it is reached (what is shared counts as often as it is met; a slice's spare places count too). A statement '..UptoSaid' is the law's where the arguments, and the package variables that the reading takes, are together of bulk at most 1048576: NARROWER than '..Said'. Prove '..Said' where nothing that the law and all that it calls make is longer than what came in: it says more and counts as full. Else prove '..UptoSaid'. A law counts once. -/
mutual
def uptoBulk {H : Type} : DataW H → Nat
  | .lit (.string bytes) => bytes.length + 1
  | .lit _ => 1
  | .nil => 1
  | .ptr d => uptoBulk d + 1
  | .slice elems spare => uptoBulkAll elems + uptoBulkAll spare + 1
  | .agg parts => uptoBulkAll parts + 1
  | .iface _ d => uptoBulk d + 1
  | .map entries => uptoBulkEntries entries + 1
  | .held _ => 1
def uptoBulkAll {H : Type} : List (DataW H) → Nat
  | [] => 0
  | d :: r => uptoBulk d + uptoBulkAll r
def uptoBulkEntries {H : Type} : List (Lit × DataW H) → Nat
  | [] => 0
  | x :: r => uptoBulkEntry x + uptoBulkEntries r
def uptoBulkEntry {H : Type} : Lit × DataW H → Nat
  | (.string bytes, d) => bytes.length + uptoBulk d + 1
  | (_, d) => uptoBulk d + 1
 end
def uptoSmall : (H : Type) → List (DataW H) → Bool := fun _ ds => decide (uptoBulkAll ds ≤ 1048576)
def OpenSpec.upto (s : _root_.Go.ChangeSpec) : _root_.Go.OpenSpec := { _root_.Go.OpenSpec.ofChange s with cond := some uptoSmall }

/-- 'laws.FnExactIsRegion', WHERE WHAT IT READS IS OF BULK AT MOST 1048576: true; the input reads as it did. -/
def fnExactIsRegionUptoRow : OpenClaim := { program := "ytpbijohdnocleaadoor", sum := "e842e225bbcba9e3719a976e7a9432b1585783e09e31b2b300598665a183c1fa", func := "loop.example/g00890/laws.FnExactIsRegion", spec := "fnExactIsRegion", unfollowed := true, recurses := true, named := ["loop.example/g00890/impl.chip", "math/bits.deBruijn64tab"], apart := false, laid := [("math/bits.deBruijn64tab", laid_math_bits_deBruijn64tab), ("loop.example/g00890/impl.chip", laid_loop_example_g00890_impl_chip)], narrowed := true }
def FnExactIsRegionUptoSaid : Prop := fnExactIsRegionUptoRow.holds Tryd.pinned (OpenSpec.upto fnExactIsRegionSpec)

/-- 'laws.FnExactRegionOf', WHERE WHAT IT READS IS OF BULK AT MOST 1048576: true; the input reads as it did. -/
def fnExactRegionOfUptoRow : OpenClaim := { program := "ytpbijohdnocleaadoor", sum := "e842e225bbcba9e3719a976e7a9432b1585783e09e31b2b300598665a183c1fa", func := "loop.example/g00890/laws.FnExactRegionOf", spec := "fnExactRegionOf", unfollowed := true, recurses := true, named := ["loop.example/g00890/impl.chip", "math/bits.deBruijn64tab"], apart := false, laid := [("math/bits.deBruijn64tab", laid_math_bits_deBruijn64tab), ("loop.example/g00890/impl.chip", laid_loop_example_g00890_impl_chip)], narrowed := true }
def FnExactRegionOfUptoSaid : Prop := fnExactRegionOfUptoRow.holds Tryd.pinned (OpenSpec.upto fnExactRegionOfSpec)

/-- 'laws.FnExactRegionArea', WHERE WHAT IT READS IS OF BULK AT MOST 1048576: true; the input reads as it did. -/
def fnExactRegionAreaUptoRow : OpenClaim := { program := "ytpbijohdnocleaadoor", sum := "e842e225bbcba9e3719a976e7a9432b1585783e09e31b2b300598665a183c1fa", func := "loop.example/g00890/laws.FnExactRegionArea", spec := "fnExactRegionArea", unfollowed := true, recurses := true, named := ["loop.example/g00890/impl.chip", "math/bits.deBruijn64tab"], apart := false, laid := [("math/bits.deBruijn64tab", laid_math_bits_deBruijn64tab), ("loop.example/g00890/impl.chip", laid_loop_example_g00890_impl_chip)], narrowed := true }
def FnExactRegionAreaUptoSaid : Prop := fnExactRegionAreaUptoRow.holds Tryd.pinned (OpenSpec.upto fnExactRegionAreaSpec)

/-- 'laws.FnExactRegionContains', WHERE WHAT IT READS IS OF BULK AT MOST 1048576: true; the input reads as it did. -/
def fnExactRegionContainsUptoRow : OpenClaim := { program := "ytpbijohdnocleaadoor", sum := "e842e225bbcba9e3719a976e7a9432b1585783e09e31b2b300598665a183c1fa", func := "loop.example/g00890/laws.FnExactRegionContains", spec := "fnExactRegionContains", unfollowed := true, recurses := true, named := ["loop.example/g00890/impl.chip", "math/bits.deBruijn64tab"], apart := false, laid := [("math/bits.deBruijn64tab", laid_math_bits_deBruijn64tab), ("loop.example/g00890/impl.chip", laid_loop_example_g00890_impl_chip)], narrowed := true }
def FnExactRegionContainsUptoSaid : Prop := fnExactRegionContainsUptoRow.holds Tryd.pinned (OpenSpec.upto fnExactRegionContainsSpec)

/-- 'laws.FnExactRegionBox', WHERE WHAT IT READS IS OF BULK AT MOST 1048576: true; the input reads as it did. -/
def fnExactRegionBoxUptoRow : OpenClaim := { program := "ytpbijohdnocleaadoor", sum := "e842e225bbcba9e3719a976e7a9432b1585783e09e31b2b300598665a183c1fa", func := "loop.example/g00890/laws.FnExactRegionBox", spec := "fnExactRegionBox", unfollowed := true, recurses := true, named := ["loop.example/g00890/impl.chip", "math/bits.deBruijn64tab"], apart := false, laid := [("math/bits.deBruijn64tab", laid_math_bits_deBruijn64tab), ("loop.example/g00890/impl.chip", laid_loop_example_g00890_impl_chip)], narrowed := true }
def FnExactRegionBoxUptoSaid : Prop := fnExactRegionBoxUptoRow.holds Tryd.pinned (OpenSpec.upto fnExactRegionBoxSpec)

/-- 'laws.FnExactRegionRow', WHERE WHAT IT READS IS OF BULK AT MOST 1048576: true; the input reads as it did. -/
def fnExactRegionRowUptoRow : OpenClaim := { program := "ytpbijohdnocleaadoor", sum := "e842e225bbcba9e3719a976e7a9432b1585783e09e31b2b300598665a183c1fa", func := "loop.example/g00890/laws.FnExactRegionRow", spec := "fnExactRegionRow", unfollowed := true, recurses := true, named := ["loop.example/g00890/impl.chip", "math/bits.deBruijn64tab"], apart := false, laid := [("math/bits.deBruijn64tab", laid_math_bits_deBruijn64tab), ("loop.example/g00890/impl.chip", laid_loop_example_g00890_impl_chip)], narrowed := true }
def FnExactRegionRowUptoSaid : Prop := fnExactRegionRowUptoRow.holds Tryd.pinned (OpenSpec.upto fnExactRegionRowSpec)

/-- 'laws.FnExactClipRegion', WHERE WHAT IT READS IS OF BULK AT MOST 1048576: true; the input reads as it did. -/
def fnExactClipRegionUptoRow : OpenClaim := { program := "ytpbijohdnocleaadoor", sum := "e842e225bbcba9e3719a976e7a9432b1585783e09e31b2b300598665a183c1fa", func := "loop.example/g00890/laws.FnExactClipRegion", spec := "fnExactClipRegion", unfollowed := true, recurses := true, named := ["loop.example/g00890/impl.chip", "math/bits.deBruijn64tab"], apart := false, laid := [("math/bits.deBruijn64tab", laid_math_bits_deBruijn64tab), ("loop.example/g00890/impl.chip", laid_loop_example_g00890_impl_chip)], narrowed := true }
def FnExactClipRegionUptoSaid : Prop := fnExactClipRegionUptoRow.holds Tryd.pinned (OpenSpec.upto fnExactClipRegionSpec)

/-- 'laws.FnExactMoveRegion', WHERE WHAT IT READS IS OF BULK AT MOST 1048576: true; the input reads as it did. -/
def fnExactMoveRegionUptoRow : OpenClaim := { program := "ytpbijohdnocleaadoor", sum := "e842e225bbcba9e3719a976e7a9432b1585783e09e31b2b300598665a183c1fa", func := "loop.example/g00890/laws.FnExactMoveRegion", spec := "fnExactMoveRegion", unfollowed := true, recurses := true, named := ["loop.example/g00890/impl.chip", "math/bits.deBruijn64tab", "loop.example/g00890/impl.orientationMatrices"], apart := false, laid := [("math/bits.deBruijn64tab", laid_math_bits_deBruijn64tab), ("loop.example/g00890/impl.orientationMatrices", laid_loop_example_g00890_impl_orientationMatrices), ("loop.example/g00890/impl.chip", laid_loop_example_g00890_impl_chip)], narrowed := true }
def FnExactMoveRegionUptoSaid : Prop := fnExactMoveRegionUptoRow.holds Tryd.pinned (OpenSpec.upto fnExactMoveRegionSpec)

/-- 'laws.FnExactUnion', WHERE WHAT IT READS IS OF BULK AT MOST 1048576: true; the input reads as it did. -/
def fnExactUnionUptoRow : OpenClaim := { program := "ytpbijohdnocleaadoor", sum := "e842e225bbcba9e3719a976e7a9432b1585783e09e31b2b300598665a183c1fa", func := "loop.example/g00890/laws.FnExactUnion", spec := "fnExactUnion", unfollowed := true, recurses := true, named := ["loop.example/g00890/impl.chip", "math/bits.deBruijn64tab"], apart := false, laid := [("math/bits.deBruijn64tab", laid_math_bits_deBruijn64tab), ("loop.example/g00890/impl.chip", laid_loop_example_g00890_impl_chip)], narrowed := true }
def FnExactUnionUptoSaid : Prop := fnExactUnionUptoRow.holds Tryd.pinned (OpenSpec.upto fnExactUnionSpec)

/-- 'laws.FnExactIntersection', WHERE WHAT IT READS IS OF BULK AT MOST 1048576: true; the input reads as it did. -/
def fnExactIntersectionUptoRow : OpenClaim := { program := "ytpbijohdnocleaadoor", sum := "e842e225bbcba9e3719a976e7a9432b1585783e09e31b2b300598665a183c1fa", func := "loop.example/g00890/laws.FnExactIntersection", spec := "fnExactIntersection", unfollowed := true, recurses := true, named := ["loop.example/g00890/impl.chip", "math/bits.deBruijn64tab"], apart := false, laid := [("math/bits.deBruijn64tab", laid_math_bits_deBruijn64tab), ("loop.example/g00890/impl.chip", laid_loop_example_g00890_impl_chip)], narrowed := true }
def FnExactIntersectionUptoSaid : Prop := fnExactIntersectionUptoRow.holds Tryd.pinned (OpenSpec.upto fnExactIntersectionSpec)

/-- 'laws.FnExactDifference', WHERE WHAT IT READS IS OF BULK AT MOST 1048576: true; the input reads as it did. -/
def fnExactDifferenceUptoRow : OpenClaim := { program := "ytpbijohdnocleaadoor", sum := "e842e225bbcba9e3719a976e7a9432b1585783e09e31b2b300598665a183c1fa", func := "loop.example/g00890/laws.FnExactDifference", spec := "fnExactDifference", unfollowed := true, recurses := true, named := ["loop.example/g00890/impl.chip", "math/bits.deBruijn64tab"], apart := false, laid := [("math/bits.deBruijn64tab", laid_math_bits_deBruijn64tab), ("loop.example/g00890/impl.chip", laid_loop_example_g00890_impl_chip)], narrowed := true }
def FnExactDifferenceUptoSaid : Prop := fnExactDifferenceUptoRow.holds Tryd.pinned (OpenSpec.upto fnExactDifferenceSpec)

/-- 'laws.FnExactSymmetricDifference', WHERE WHAT IT READS IS OF BULK AT MOST 1048576: true; the input reads as it did. -/
def fnExactSymmetricDifferenceUptoRow : OpenClaim := { program := "ytpbijohdnocleaadoor", sum := "e842e225bbcba9e3719a976e7a9432b1585783e09e31b2b300598665a183c1fa", func := "loop.example/g00890/laws.FnExactSymmetricDifference", spec := "fnExactSymmetricDifference", unfollowed := true, recurses := true, named := ["loop.example/g00890/impl.chip", "math/bits.deBruijn64tab"], apart := false, laid := [("math/bits.deBruijn64tab", laid_math_bits_deBruijn64tab), ("loop.example/g00890/impl.chip", laid_loop_example_g00890_impl_chip)], narrowed := true }
def FnExactSymmetricDifferenceUptoSaid : Prop := fnExactSymmetricDifferenceUptoRow.holds Tryd.pinned (OpenSpec.upto fnExactSymmetricDifferenceSpec)

/-- 'laws.FnExactComplement', WHERE WHAT IT READS IS OF BULK AT MOST 1048576: true; the input reads as it did. -/
def fnExactComplementUptoRow : OpenClaim := { program := "ytpbijohdnocleaadoor", sum := "e842e225bbcba9e3719a976e7a9432b1585783e09e31b2b300598665a183c1fa", func := "loop.example/g00890/laws.FnExactComplement", spec := "fnExactComplement", unfollowed := true, recurses := true, named := ["loop.example/g00890/impl.chip", "math/bits.deBruijn64tab"], apart := false, laid := [("math/bits.deBruijn64tab", laid_math_bits_deBruijn64tab), ("loop.example/g00890/impl.chip", laid_loop_example_g00890_impl_chip)], narrowed := true }
def FnExactComplementUptoSaid : Prop := fnExactComplementUptoRow.holds Tryd.pinned (OpenSpec.upto fnExactComplementSpec)

/-- 'laws.FnExactUnionAll', WHERE WHAT IT READS IS OF BULK AT MOST 1048576: true; the input reads as it did. -/
def fnExactUnionAllUptoRow : OpenClaim := { program := "ytpbijohdnocleaadoor", sum := "e842e225bbcba9e3719a976e7a9432b1585783e09e31b2b300598665a183c1fa", func := "loop.example/g00890/laws.FnExactUnionAll", spec := "fnExactUnionAll", unfollowed := true, recurses := true, named := ["loop.example/g00890/impl.chip", "math/bits.deBruijn64tab"], apart := false, laid := [("math/bits.deBruijn64tab", laid_math_bits_deBruijn64tab), ("loop.example/g00890/impl.chip", laid_loop_example_g00890_impl_chip)], narrowed := true }
def FnExactUnionAllUptoSaid : Prop := fnExactUnionAllUptoRow.holds Tryd.pinned (OpenSpec.upto fnExactUnionAllSpec)

/-- 'laws.FnExactCovers', WHERE WHAT IT READS IS OF BULK AT MOST 1048576: true; the input reads as it did. -/
def fnExactCoversUptoRow : OpenClaim := { program := "ytpbijohdnocleaadoor", sum := "e842e225bbcba9e3719a976e7a9432b1585783e09e31b2b300598665a183c1fa", func := "loop.example/g00890/laws.FnExactCovers", spec := "fnExactCovers", unfollowed := true, recurses := true, named := ["loop.example/g00890/impl.chip", "math/bits.deBruijn64tab"], apart := false, laid := [("math/bits.deBruijn64tab", laid_math_bits_deBruijn64tab), ("loop.example/g00890/impl.chip", laid_loop_example_g00890_impl_chip)], narrowed := true }
def FnExactCoversUptoSaid : Prop := fnExactCoversUptoRow.holds Tryd.pinned (OpenSpec.upto fnExactCoversSpec)

/-- 'laws.FnExactOverlaps', WHERE WHAT IT READS IS OF BULK AT MOST 1048576: true; the input reads as it did. -/
def fnExactOverlapsUptoRow : OpenClaim := { program := "ytpbijohdnocleaadoor", sum := "e842e225bbcba9e3719a976e7a9432b1585783e09e31b2b300598665a183c1fa", func := "loop.example/g00890/laws.FnExactOverlaps", spec := "fnExactOverlaps", unfollowed := true, recurses := true, named := ["loop.example/g00890/impl.chip", "math/bits.deBruijn64tab"], apart := false, laid := [("math/bits.deBruijn64tab", laid_math_bits_deBruijn64tab), ("loop.example/g00890/impl.chip", laid_loop_example_g00890_impl_chip)], narrowed := true }
def FnExactOverlapsUptoSaid : Prop := fnExactOverlapsUptoRow.holds Tryd.pinned (OpenSpec.upto fnExactOverlapsSpec)

end Rows
end Go.Proofs.YtpbijohdnocleaaDoor
