/-
  NARROWER THAN 'FOR EVERY INPUT', by the rows' own cells (each row's printed sentence says how): FnExactIsValidRect: laid · FnExactRectArea: laid · FnExactRectContains: laid · FnExactRectsOverlap: laid · FnExactRectsAbut: laid · FnExactIntersectRects: laid · FnExactBoundingBox: laid · FnExactRectGap: laid · FnExactMoveRect: laid · FnBoolean: laid · FnDistributive: laid · FnAreas: laid · FnRegionOf: laid · FnMoveRegions: laid.
  DERIVED. THE GIVEN ROWS OF THIS SEAT. 14 by the template 'for every input the law returns true; each argument reads behind the call as it read before'; 0 by the template 'total and deterministic' (their statements: YtdcddneanbplpaaDoorTotals.lean).
  GIVEN WITH THE SEED: the statements are not yours to turn. If you find one false, say at which input.
  Laid BY PROGRAM, IN A SANDBOX (cutbox-rows.mjs): the forced cells as the released guide's own fill.sh prints them over the translation 80ca36a0e01605a8… (all of the seat's roots in one cut). By AI agents, Wed Nov 11 2026. No macro, syntax, notation, axiom, sorry.
-/
import Derived.Test.YtdcddneanbplpaaDoorChecked
import GoSem.Claim
import GoSem.ClaimJoined
import GoSem.ClaimMapViews
import Derived.JoinedTies
import Derived.KernelRfl
namespace Go.Proofs.YtdcddneanbplpaaDoor
/- THE CELL 'sum', in the pinned program and in every row, IS THE sha256 OF THE DUMP (.gsa) THAT YtdcddneanbplpaaDoorProg.lean LOADS. Nothing in Lean hashes anything: it is a label: what it is worth is what the hold of that sum in a sandbox is worth. -/
noncomputable def Tryd.pinned : Pinned := { name := "ytdcddneanbplpaadoor", sum := "80ca36a0e01605a8223446ba47197e2ed34b80f5ebf9a9baa1f6961b876354cb", checked := Tryd.checked }
namespace Rows
def none {H : Type} : Left H := { results := [], args := [] }

/- WHAT THE LISTED PACKAGE-LEVEL VARIABLES READ AS WHEN THE CALL BEGINS. Each datum BY PROGRAM (the guide's laid-datum.mjs) off the statement by which the dump's own 'gosem.cut.vars' lays the variable. In a bare row this is a premise. The card (YtdcddneanbplpaaDoorCards.lean) ties it to the program's text. -/
def laid_loop_example_g00890_impl_chip {H : Type} : DataW H := .agg [.lit (.int .i64 (-40)), .lit (.int .i64 (-40)), .lit (.int .i64 40), .lit (.int .i64 40)]
def laid_loop_example_g00890_impl_orientationMatrices {H : Type} : DataW H := .agg [.agg [.lit (.int .i64 1), .lit (.int .i64 0), .lit (.int .i64 0), .lit (.int .i64 1)], .agg [.lit (.int .i64 0), .lit (.int .i64 (-1)), .lit (.int .i64 1), .lit (.int .i64 0)], .agg [.lit (.int .i64 (-1)), .lit (.int .i64 0), .lit (.int .i64 0), .lit (.int .i64 (-1))], .agg [.lit (.int .i64 0), .lit (.int .i64 1), .lit (.int .i64 (-1)), .lit (.int .i64 0)], .agg [.lit (.int .i64 1), .lit (.int .i64 0), .lit (.int .i64 0), .lit (.int .i64 (-1))], .agg [.lit (.int .i64 0), .lit (.int .i64 1), .lit (.int .i64 1), .lit (.int .i64 0)], .agg [.lit (.int .i64 (-1)), .lit (.int .i64 0), .lit (.int .i64 0), .lit (.int .i64 1)], .agg [.lit (.int .i64 0), .lit (.int .i64 (-1)), .lit (.int .i64 (-1)), .lit (.int .i64 0)]]
def laid_math_bits_deBruijn64tab {H : Type} : DataW H := .agg [.lit (.int .u8 0), .lit (.int .u8 1), .lit (.int .u8 56), .lit (.int .u8 2), .lit (.int .u8 57), .lit (.int .u8 49), .lit (.int .u8 28), .lit (.int .u8 3), .lit (.int .u8 61), .lit (.int .u8 58), .lit (.int .u8 42), .lit (.int .u8 50), .lit (.int .u8 38), .lit (.int .u8 29), .lit (.int .u8 17), .lit (.int .u8 4), .lit (.int .u8 62), .lit (.int .u8 47), .lit (.int .u8 59), .lit (.int .u8 36), .lit (.int .u8 45), .lit (.int .u8 43), .lit (.int .u8 51), .lit (.int .u8 22), .lit (.int .u8 53), .lit (.int .u8 39), .lit (.int .u8 33), .lit (.int .u8 30), .lit (.int .u8 24), .lit (.int .u8 18), .lit (.int .u8 12), .lit (.int .u8 5), .lit (.int .u8 63), .lit (.int .u8 55), .lit (.int .u8 48), .lit (.int .u8 27), .lit (.int .u8 60), .lit (.int .u8 41), .lit (.int .u8 37), .lit (.int .u8 16), .lit (.int .u8 46), .lit (.int .u8 35), .lit (.int .u8 44), .lit (.int .u8 21), .lit (.int .u8 52), .lit (.int .u8 32), .lit (.int .u8 23), .lit (.int .u8 11), .lit (.int .u8 54), .lit (.int .u8 26), .lit (.int .u8 40), .lit (.int .u8 15), .lit (.int .u8 34), .lit (.int .u8 20), .lit (.int .u8 31), .lit (.int .u8 10), .lit (.int .u8 25), .lit (.int .u8 14), .lit (.int .u8 19), .lit (.int .u8 9), .lit (.int .u8 13), .lit (.int .u8 8), .lit (.int .u8 7), .lit (.int .u8 6)]

/-- 'laws.FnExactIsValidRect': WHATEVER THE INPUT: true; the input reads as it did. -/
def fnExactIsValidRectSpec : ChangeSpec := { name := "fnExactIsValidRect", vars := ["loop.example/g00890/impl.chip"], fn := fun _ => fun
  | [d, g1] => { results := [.lit (.bool true)], args := [d], vars := [g1] }
  | _ => none }
def fnExactIsValidRectRow : OpenClaim := { program := "ytdcddneanbplpaadoor", sum := "80ca36a0e01605a8223446ba47197e2ed34b80f5ebf9a9baa1f6961b876354cb", func := "loop.example/g00890/laws.FnExactIsValidRect", spec := "fnExactIsValidRect", named := ["loop.example/g00890/impl.chip"], apart := false, laid := [("loop.example/g00890/impl.chip", laid_loop_example_g00890_impl_chip)] }
def FnExactIsValidRectSaid : Prop := fnExactIsValidRectRow.holds Tryd.pinned (OpenSpec.ofChange fnExactIsValidRectSpec)

/-- ITS FALSE NEIGHBOUR: 'it returns false'. Refute it at one input. -/
def fnExactIsValidRectWrong : ChangeSpec := { name := "fnExactIsValidRect", vars := ["loop.example/g00890/impl.chip"], fn := fun _ => fun
  | [d, g1] => { results := [.lit (.bool false)], args := [d], vars := [g1] }
  | _ => none }
def FnExactIsValidRectWrongFalsely : Prop := fnExactIsValidRectRow.holds Tryd.pinned (OpenSpec.ofChange fnExactIsValidRectWrong)

/-- 'laws.FnExactRectArea': WHATEVER THE INPUT: true; the input reads as it did. -/
def fnExactRectAreaSpec : ChangeSpec := { name := "fnExactRectArea", vars := ["loop.example/g00890/impl.chip"], fn := fun _ => fun
  | [d, g1] => { results := [.lit (.bool true)], args := [d], vars := [g1] }
  | _ => none }
def fnExactRectAreaRow : OpenClaim := { program := "ytdcddneanbplpaadoor", sum := "80ca36a0e01605a8223446ba47197e2ed34b80f5ebf9a9baa1f6961b876354cb", func := "loop.example/g00890/laws.FnExactRectArea", spec := "fnExactRectArea", named := ["loop.example/g00890/impl.chip"], apart := false, laid := [("loop.example/g00890/impl.chip", laid_loop_example_g00890_impl_chip)] }
def FnExactRectAreaSaid : Prop := fnExactRectAreaRow.holds Tryd.pinned (OpenSpec.ofChange fnExactRectAreaSpec)

/-- ITS FALSE NEIGHBOUR: 'it returns false'. Refute it at one input. -/
def fnExactRectAreaWrong : ChangeSpec := { name := "fnExactRectArea", vars := ["loop.example/g00890/impl.chip"], fn := fun _ => fun
  | [d, g1] => { results := [.lit (.bool false)], args := [d], vars := [g1] }
  | _ => none }
def FnExactRectAreaWrongFalsely : Prop := fnExactRectAreaRow.holds Tryd.pinned (OpenSpec.ofChange fnExactRectAreaWrong)

/-- 'laws.FnExactRectContains': WHATEVER THE INPUT: true; the input reads as it did. -/
def fnExactRectContainsSpec : ChangeSpec := { name := "fnExactRectContains", vars := ["loop.example/g00890/impl.chip"], fn := fun _ => fun
  | [d1, d2, d3, g1] => { results := [.lit (.bool true)], args := [d1, d2, d3], vars := [g1] }
  | _ => none }
def fnExactRectContainsRow : OpenClaim := { program := "ytdcddneanbplpaadoor", sum := "80ca36a0e01605a8223446ba47197e2ed34b80f5ebf9a9baa1f6961b876354cb", func := "loop.example/g00890/laws.FnExactRectContains", spec := "fnExactRectContains", named := ["loop.example/g00890/impl.chip"], apart := false, laid := [("loop.example/g00890/impl.chip", laid_loop_example_g00890_impl_chip)] }
def FnExactRectContainsSaid : Prop := fnExactRectContainsRow.holds Tryd.pinned (OpenSpec.ofChange fnExactRectContainsSpec)

/-- ITS FALSE NEIGHBOUR: 'it returns false'. Refute it at one input. -/
def fnExactRectContainsWrong : ChangeSpec := { name := "fnExactRectContains", vars := ["loop.example/g00890/impl.chip"], fn := fun _ => fun
  | [d1, d2, d3, g1] => { results := [.lit (.bool false)], args := [d1, d2, d3], vars := [g1] }
  | _ => none }
def FnExactRectContainsWrongFalsely : Prop := fnExactRectContainsRow.holds Tryd.pinned (OpenSpec.ofChange fnExactRectContainsWrong)

/-- 'laws.FnExactRectsOverlap': WHATEVER THE INPUT: true; the input reads as it did. -/
def fnExactRectsOverlapSpec : ChangeSpec := { name := "fnExactRectsOverlap", vars := ["loop.example/g00890/impl.chip"], fn := fun _ => fun
  | [d1, d2, g1] => { results := [.lit (.bool true)], args := [d1, d2], vars := [g1] }
  | _ => none }
def fnExactRectsOverlapRow : OpenClaim := { program := "ytdcddneanbplpaadoor", sum := "80ca36a0e01605a8223446ba47197e2ed34b80f5ebf9a9baa1f6961b876354cb", func := "loop.example/g00890/laws.FnExactRectsOverlap", spec := "fnExactRectsOverlap", named := ["loop.example/g00890/impl.chip"], apart := false, laid := [("loop.example/g00890/impl.chip", laid_loop_example_g00890_impl_chip)] }
def FnExactRectsOverlapSaid : Prop := fnExactRectsOverlapRow.holds Tryd.pinned (OpenSpec.ofChange fnExactRectsOverlapSpec)

/-- ITS FALSE NEIGHBOUR: 'it returns false'. Refute it at one input. -/
def fnExactRectsOverlapWrong : ChangeSpec := { name := "fnExactRectsOverlap", vars := ["loop.example/g00890/impl.chip"], fn := fun _ => fun
  | [d1, d2, g1] => { results := [.lit (.bool false)], args := [d1, d2], vars := [g1] }
  | _ => none }
def FnExactRectsOverlapWrongFalsely : Prop := fnExactRectsOverlapRow.holds Tryd.pinned (OpenSpec.ofChange fnExactRectsOverlapWrong)

/-- 'laws.FnExactRectsAbut': WHATEVER THE INPUT: true; the input reads as it did. -/
def fnExactRectsAbutSpec : ChangeSpec := { name := "fnExactRectsAbut", vars := ["loop.example/g00890/impl.chip"], fn := fun _ => fun
  | [d1, d2, g1] => { results := [.lit (.bool true)], args := [d1, d2], vars := [g1] }
  | _ => none }
def fnExactRectsAbutRow : OpenClaim := { program := "ytdcddneanbplpaadoor", sum := "80ca36a0e01605a8223446ba47197e2ed34b80f5ebf9a9baa1f6961b876354cb", func := "loop.example/g00890/laws.FnExactRectsAbut", spec := "fnExactRectsAbut", named := ["loop.example/g00890/impl.chip"], apart := false, laid := [("loop.example/g00890/impl.chip", laid_loop_example_g00890_impl_chip)] }
def FnExactRectsAbutSaid : Prop := fnExactRectsAbutRow.holds Tryd.pinned (OpenSpec.ofChange fnExactRectsAbutSpec)

/-- ITS FALSE NEIGHBOUR: 'it returns false'. Refute it at one input. -/
def fnExactRectsAbutWrong : ChangeSpec := { name := "fnExactRectsAbut", vars := ["loop.example/g00890/impl.chip"], fn := fun _ => fun
  | [d1, d2, g1] => { results := [.lit (.bool false)], args := [d1, d2], vars := [g1] }
  | _ => none }
def FnExactRectsAbutWrongFalsely : Prop := fnExactRectsAbutRow.holds Tryd.pinned (OpenSpec.ofChange fnExactRectsAbutWrong)

/-- 'laws.FnExactIntersectRects': WHATEVER THE INPUT: true; the input reads as it did. -/
def fnExactIntersectRectsSpec : ChangeSpec := { name := "fnExactIntersectRects", vars := ["loop.example/g00890/impl.chip"], fn := fun _ => fun
  | [d1, d2, g1] => { results := [.lit (.bool true)], args := [d1, d2], vars := [g1] }
  | _ => none }
def fnExactIntersectRectsRow : OpenClaim := { program := "ytdcddneanbplpaadoor", sum := "80ca36a0e01605a8223446ba47197e2ed34b80f5ebf9a9baa1f6961b876354cb", func := "loop.example/g00890/laws.FnExactIntersectRects", spec := "fnExactIntersectRects", named := ["loop.example/g00890/impl.chip"], apart := false, laid := [("loop.example/g00890/impl.chip", laid_loop_example_g00890_impl_chip)] }
def FnExactIntersectRectsSaid : Prop := fnExactIntersectRectsRow.holds Tryd.pinned (OpenSpec.ofChange fnExactIntersectRectsSpec)

/-- ITS FALSE NEIGHBOUR: 'it returns false'. Refute it at one input. -/
def fnExactIntersectRectsWrong : ChangeSpec := { name := "fnExactIntersectRects", vars := ["loop.example/g00890/impl.chip"], fn := fun _ => fun
  | [d1, d2, g1] => { results := [.lit (.bool false)], args := [d1, d2], vars := [g1] }
  | _ => none }
def FnExactIntersectRectsWrongFalsely : Prop := fnExactIntersectRectsRow.holds Tryd.pinned (OpenSpec.ofChange fnExactIntersectRectsWrong)

/-- 'laws.FnExactBoundingBox': WHATEVER THE INPUT: true; the input reads as it did. -/
def fnExactBoundingBoxSpec : ChangeSpec := { name := "fnExactBoundingBox", vars := ["loop.example/g00890/impl.chip"], fn := fun _ => fun
  | [d, g1] => { results := [.lit (.bool true)], args := [d], vars := [g1] }
  | _ => none }
def fnExactBoundingBoxRow : OpenClaim := { program := "ytdcddneanbplpaadoor", sum := "80ca36a0e01605a8223446ba47197e2ed34b80f5ebf9a9baa1f6961b876354cb", func := "loop.example/g00890/laws.FnExactBoundingBox", spec := "fnExactBoundingBox", named := ["loop.example/g00890/impl.chip"], apart := false, laid := [("loop.example/g00890/impl.chip", laid_loop_example_g00890_impl_chip)] }
def FnExactBoundingBoxSaid : Prop := fnExactBoundingBoxRow.holds Tryd.pinned (OpenSpec.ofChange fnExactBoundingBoxSpec)

/-- ITS FALSE NEIGHBOUR: 'it returns false'. Refute it at one input. -/
def fnExactBoundingBoxWrong : ChangeSpec := { name := "fnExactBoundingBox", vars := ["loop.example/g00890/impl.chip"], fn := fun _ => fun
  | [d, g1] => { results := [.lit (.bool false)], args := [d], vars := [g1] }
  | _ => none }
def FnExactBoundingBoxWrongFalsely : Prop := fnExactBoundingBoxRow.holds Tryd.pinned (OpenSpec.ofChange fnExactBoundingBoxWrong)

/-- 'laws.FnExactRectGap': WHATEVER THE INPUT: true; the input reads as it did. -/
def fnExactRectGapSpec : ChangeSpec := { name := "fnExactRectGap", vars := ["loop.example/g00890/impl.chip"], fn := fun _ => fun
  | [d1, d2, g1] => { results := [.lit (.bool true)], args := [d1, d2], vars := [g1] }
  | _ => none }
def fnExactRectGapRow : OpenClaim := { program := "ytdcddneanbplpaadoor", sum := "80ca36a0e01605a8223446ba47197e2ed34b80f5ebf9a9baa1f6961b876354cb", func := "loop.example/g00890/laws.FnExactRectGap", spec := "fnExactRectGap", named := ["loop.example/g00890/impl.chip"], apart := false, laid := [("loop.example/g00890/impl.chip", laid_loop_example_g00890_impl_chip)] }
def FnExactRectGapSaid : Prop := fnExactRectGapRow.holds Tryd.pinned (OpenSpec.ofChange fnExactRectGapSpec)

/-- ITS FALSE NEIGHBOUR: 'it returns false'. Refute it at one input. -/
def fnExactRectGapWrong : ChangeSpec := { name := "fnExactRectGap", vars := ["loop.example/g00890/impl.chip"], fn := fun _ => fun
  | [d1, d2, g1] => { results := [.lit (.bool false)], args := [d1, d2], vars := [g1] }
  | _ => none }
def FnExactRectGapWrongFalsely : Prop := fnExactRectGapRow.holds Tryd.pinned (OpenSpec.ofChange fnExactRectGapWrong)

/-- 'laws.FnExactMoveRect': WHATEVER THE INPUT: true; the input reads as it did. -/
def fnExactMoveRectSpec : ChangeSpec := { name := "fnExactMoveRect", vars := ["loop.example/g00890/impl.chip", "loop.example/g00890/impl.orientationMatrices"], fn := fun _ => fun
  | [d1, d2, g1, g2] => { results := [.lit (.bool true)], args := [d1, d2], vars := [g1, g2] }
  | _ => none }
def fnExactMoveRectRow : OpenClaim := { program := "ytdcddneanbplpaadoor", sum := "80ca36a0e01605a8223446ba47197e2ed34b80f5ebf9a9baa1f6961b876354cb", func := "loop.example/g00890/laws.FnExactMoveRect", spec := "fnExactMoveRect", named := ["loop.example/g00890/impl.chip", "loop.example/g00890/impl.orientationMatrices"], apart := false, laid := [("loop.example/g00890/impl.orientationMatrices", laid_loop_example_g00890_impl_orientationMatrices), ("loop.example/g00890/impl.chip", laid_loop_example_g00890_impl_chip)] }
def FnExactMoveRectSaid : Prop := fnExactMoveRectRow.holds Tryd.pinned (OpenSpec.ofChange fnExactMoveRectSpec)

/-- ITS FALSE NEIGHBOUR: 'it returns false'. Refute it at one input. -/
def fnExactMoveRectWrong : ChangeSpec := { name := "fnExactMoveRect", vars := ["loop.example/g00890/impl.chip", "loop.example/g00890/impl.orientationMatrices"], fn := fun _ => fun
  | [d1, d2, g1, g2] => { results := [.lit (.bool false)], args := [d1, d2], vars := [g1, g2] }
  | _ => none }
def FnExactMoveRectWrongFalsely : Prop := fnExactMoveRectRow.holds Tryd.pinned (OpenSpec.ofChange fnExactMoveRectWrong)

/-- 'laws.FnBoolean': WHATEVER THE INPUT: true; the input reads as it did. -/
def fnBooleanSpec : ChangeSpec := { name := "fnBoolean", vars := ["loop.example/g00890/impl.chip"], fn := fun _ => fun
  | [d, g1] => { results := [.lit (.bool true)], args := [d], vars := [g1] }
  | _ => none }
def fnBooleanRow : OpenClaim := { program := "ytdcddneanbplpaadoor", sum := "80ca36a0e01605a8223446ba47197e2ed34b80f5ebf9a9baa1f6961b876354cb", func := "loop.example/g00890/laws.FnBoolean", spec := "fnBoolean", unfollowed := true, recurses := true, named := ["loop.example/g00890/impl.chip", "math/bits.deBruijn64tab"], apart := false, laid := [("math/bits.deBruijn64tab", laid_math_bits_deBruijn64tab), ("loop.example/g00890/impl.chip", laid_loop_example_g00890_impl_chip)] }
def FnBooleanSaid : Prop := fnBooleanRow.holds Tryd.pinned (OpenSpec.ofChange fnBooleanSpec)

/-- ITS FALSE NEIGHBOUR: 'it returns false'. Refute it at one input. -/
def fnBooleanWrong : ChangeSpec := { name := "fnBoolean", vars := ["loop.example/g00890/impl.chip"], fn := fun _ => fun
  | [d, g1] => { results := [.lit (.bool false)], args := [d], vars := [g1] }
  | _ => none }
def FnBooleanWrongFalsely : Prop := fnBooleanRow.holds Tryd.pinned (OpenSpec.ofChange fnBooleanWrong)

/-- 'laws.FnDistributive': WHATEVER THE INPUT: true; the input reads as it did. -/
def fnDistributiveSpec : ChangeSpec := { name := "fnDistributive", vars := ["loop.example/g00890/impl.chip"], fn := fun _ => fun
  | [d, g1] => { results := [.lit (.bool true)], args := [d], vars := [g1] }
  | _ => none }
def fnDistributiveRow : OpenClaim := { program := "ytdcddneanbplpaadoor", sum := "80ca36a0e01605a8223446ba47197e2ed34b80f5ebf9a9baa1f6961b876354cb", func := "loop.example/g00890/laws.FnDistributive", spec := "fnDistributive", unfollowed := true, recurses := true, named := ["loop.example/g00890/impl.chip", "math/bits.deBruijn64tab"], apart := false, laid := [("math/bits.deBruijn64tab", laid_math_bits_deBruijn64tab), ("loop.example/g00890/impl.chip", laid_loop_example_g00890_impl_chip)] }
def FnDistributiveSaid : Prop := fnDistributiveRow.holds Tryd.pinned (OpenSpec.ofChange fnDistributiveSpec)

/-- ITS FALSE NEIGHBOUR: 'it returns false'. Refute it at one input. -/
def fnDistributiveWrong : ChangeSpec := { name := "fnDistributive", vars := ["loop.example/g00890/impl.chip"], fn := fun _ => fun
  | [d, g1] => { results := [.lit (.bool false)], args := [d], vars := [g1] }
  | _ => none }
def FnDistributiveWrongFalsely : Prop := fnDistributiveRow.holds Tryd.pinned (OpenSpec.ofChange fnDistributiveWrong)

/-- 'laws.FnAreas': WHATEVER THE INPUT: true; the input reads as it did. -/
def fnAreasSpec : ChangeSpec := { name := "fnAreas", vars := ["loop.example/g00890/impl.chip"], fn := fun _ => fun
  | [d, g1] => { results := [.lit (.bool true)], args := [d], vars := [g1] }
  | _ => none }
def fnAreasRow : OpenClaim := { program := "ytdcddneanbplpaadoor", sum := "80ca36a0e01605a8223446ba47197e2ed34b80f5ebf9a9baa1f6961b876354cb", func := "loop.example/g00890/laws.FnAreas", spec := "fnAreas", unfollowed := true, recurses := true, named := ["loop.example/g00890/impl.chip", "math/bits.deBruijn64tab"], apart := false, laid := [("math/bits.deBruijn64tab", laid_math_bits_deBruijn64tab), ("loop.example/g00890/impl.chip", laid_loop_example_g00890_impl_chip)] }
def FnAreasSaid : Prop := fnAreasRow.holds Tryd.pinned (OpenSpec.ofChange fnAreasSpec)

/-- ITS FALSE NEIGHBOUR: 'it returns false'. Refute it at one input. -/
def fnAreasWrong : ChangeSpec := { name := "fnAreas", vars := ["loop.example/g00890/impl.chip"], fn := fun _ => fun
  | [d, g1] => { results := [.lit (.bool false)], args := [d], vars := [g1] }
  | _ => none }
def FnAreasWrongFalsely : Prop := fnAreasRow.holds Tryd.pinned (OpenSpec.ofChange fnAreasWrong)

/-- 'laws.FnRegionOf': WHATEVER THE INPUT: true; the input reads as it did. -/
def fnRegionOfSpec : ChangeSpec := { name := "fnRegionOf", vars := ["loop.example/g00890/impl.chip"], fn := fun _ => fun
  | [d, g1] => { results := [.lit (.bool true)], args := [d], vars := [g1] }
  | _ => none }
def fnRegionOfRow : OpenClaim := { program := "ytdcddneanbplpaadoor", sum := "80ca36a0e01605a8223446ba47197e2ed34b80f5ebf9a9baa1f6961b876354cb", func := "loop.example/g00890/laws.FnRegionOf", spec := "fnRegionOf", unfollowed := true, recurses := true, named := ["loop.example/g00890/impl.chip", "math/bits.deBruijn64tab"], apart := false, laid := [("math/bits.deBruijn64tab", laid_math_bits_deBruijn64tab), ("loop.example/g00890/impl.chip", laid_loop_example_g00890_impl_chip)] }
def FnRegionOfSaid : Prop := fnRegionOfRow.holds Tryd.pinned (OpenSpec.ofChange fnRegionOfSpec)

/-- ITS FALSE NEIGHBOUR: 'it returns false'. Refute it at one input. -/
def fnRegionOfWrong : ChangeSpec := { name := "fnRegionOf", vars := ["loop.example/g00890/impl.chip"], fn := fun _ => fun
  | [d, g1] => { results := [.lit (.bool false)], args := [d], vars := [g1] }
  | _ => none }
def FnRegionOfWrongFalsely : Prop := fnRegionOfRow.holds Tryd.pinned (OpenSpec.ofChange fnRegionOfWrong)

/-- 'laws.FnMoveRegions': WHATEVER THE INPUT: true; the input reads as it did. -/
def fnMoveRegionsSpec : ChangeSpec := { name := "fnMoveRegions", vars := ["loop.example/g00890/impl.chip", "loop.example/g00890/impl.orientationMatrices"], fn := fun _ => fun
  | [d, g1, g2] => { results := [.lit (.bool true)], args := [d], vars := [g1, g2] }
  | _ => none }
def fnMoveRegionsRow : OpenClaim := { program := "ytdcddneanbplpaadoor", sum := "80ca36a0e01605a8223446ba47197e2ed34b80f5ebf9a9baa1f6961b876354cb", func := "loop.example/g00890/laws.FnMoveRegions", spec := "fnMoveRegions", unfollowed := true, recurses := true, named := ["loop.example/g00890/impl.chip", "math/bits.deBruijn64tab", "loop.example/g00890/impl.orientationMatrices"], apart := false, laid := [("math/bits.deBruijn64tab", laid_math_bits_deBruijn64tab), ("loop.example/g00890/impl.orientationMatrices", laid_loop_example_g00890_impl_orientationMatrices), ("loop.example/g00890/impl.chip", laid_loop_example_g00890_impl_chip)] }
def FnMoveRegionsSaid : Prop := fnMoveRegionsRow.holds Tryd.pinned (OpenSpec.ofChange fnMoveRegionsSpec)

/-- ITS FALSE NEIGHBOUR: 'it returns false'. Refute it at one input. -/
def fnMoveRegionsWrong : ChangeSpec := { name := "fnMoveRegions", vars := ["loop.example/g00890/impl.chip", "loop.example/g00890/impl.orientationMatrices"], fn := fun _ => fun
  | [d, g1, g2] => { results := [.lit (.bool false)], args := [d], vars := [g1, g2] }
  | _ => none }
def FnMoveRegionsWrongFalsely : Prop := fnMoveRegionsRow.holds Tryd.pinned (OpenSpec.ofChange fnMoveRegionsWrong)

/- THE SECOND FORM. 'bulk': how many values and letters a reading holds, each counted each time it is reached (what is shared counts as often as it is met; a slice's spare places count too). A statement '..UptoSaid' is the law's where the arguments, and the package variables that the reading takes, are together of bulk at most 1048576: NARROWER than '..Said'. Prove '..Said' where nothing that the law and all that it calls make is longer than what came in: it says more and counts as full. Else prove '..UptoSaid'. A law counts once. -/
mutual
def uptoBulk {H : Type} : DataW H → Nat
  | .lit (.string bytes) => bytes.length + 1
  | .lit _ => 1
  | .nil => 1
  | .ptr d => uptoBulk d + 1
  | .slice elems spare => uptoBulkAll elems + uptoBulkAll spare + 1
  | .agg parts => uptoBulkAll parts + 1
  | .iface _ d => uptoBulk d + 1
  | .map entries => uptoBulkEntries entries + 1
  | .held _ => 1
def uptoBulkAll {H : Type} : List (DataW H) → Nat
  | [] => 0
  | d :: r => uptoBulk d + uptoBulkAll r
def uptoBulkEntries {H : Type} : List (Lit × DataW H) → Nat
  | [] => 0
  | x :: r => uptoBulkEntry x + uptoBulkEntries r
def uptoBulkEntry {H : Type} : Lit × DataW H → Nat
  | (.string bytes, d) => bytes.length + uptoBulk d + 1
  | (_, d) => uptoBulk d + 1
 end
def uptoSmall : (H : Type) → List (DataW H) → Bool := fun _ ds => decide (uptoBulkAll ds ≤ 1048576)
def OpenSpec.upto (s : _root_.Go.ChangeSpec) : _root_.Go.OpenSpec := { _root_.Go.OpenSpec.ofChange s with cond := some uptoSmall }

/-- 'laws.FnExactIsValidRect', WHERE WHAT IT READS IS OF BULK AT MOST 1048576: true; the input reads as it did. -/
def fnExactIsValidRectUptoRow : OpenClaim := { program := "ytdcddneanbplpaadoor", sum := "80ca36a0e01605a8223446ba47197e2ed34b80f5ebf9a9baa1f6961b876354cb", func := "loop.example/g00890/laws.FnExactIsValidRect", spec := "fnExactIsValidRect", named := ["loop.example/g00890/impl.chip"], apart := false, laid := [("loop.example/g00890/impl.chip", laid_loop_example_g00890_impl_chip)], narrowed := true }
def FnExactIsValidRectUptoSaid : Prop := fnExactIsValidRectUptoRow.holds Tryd.pinned (OpenSpec.upto fnExactIsValidRectSpec)

/-- 'laws.FnExactRectArea', WHERE WHAT IT READS IS OF BULK AT MOST 1048576: true; the input reads as it did. -/
def fnExactRectAreaUptoRow : OpenClaim := { program := "ytdcddneanbplpaadoor", sum := "80ca36a0e01605a8223446ba47197e2ed34b80f5ebf9a9baa1f6961b876354cb", func := "loop.example/g00890/laws.FnExactRectArea", spec := "fnExactRectArea", named := ["loop.example/g00890/impl.chip"], apart := false, laid := [("loop.example/g00890/impl.chip", laid_loop_example_g00890_impl_chip)], narrowed := true }
def FnExactRectAreaUptoSaid : Prop := fnExactRectAreaUptoRow.holds Tryd.pinned (OpenSpec.upto fnExactRectAreaSpec)

/-- 'laws.FnExactRectContains', WHERE WHAT IT READS IS OF BULK AT MOST 1048576: true; the input reads as it did. -/
def fnExactRectContainsUptoRow : OpenClaim := { program := "ytdcddneanbplpaadoor", sum := "80ca36a0e01605a8223446ba47197e2ed34b80f5ebf9a9baa1f6961b876354cb", func := "loop.example/g00890/laws.FnExactRectContains", spec := "fnExactRectContains", named := ["loop.example/g00890/impl.chip"], apart := false, laid := [("loop.example/g00890/impl.chip", laid_loop_example_g00890_impl_chip)], narrowed := true }
def FnExactRectContainsUptoSaid : Prop := fnExactRectContainsUptoRow.holds Tryd.pinned (OpenSpec.upto fnExactRectContainsSpec)

/-- 'laws.FnExactRectsOverlap', WHERE WHAT IT READS IS OF BULK AT MOST 1048576: true; the input reads as it did. -/
def fnExactRectsOverlapUptoRow : OpenClaim := { program := "ytdcddneanbplpaadoor", sum := "80ca36a0e01605a8223446ba47197e2ed34b80f5ebf9a9baa1f6961b876354cb", func := "loop.example/g00890/laws.FnExactRectsOverlap", spec := "fnExactRectsOverlap", named := ["loop.example/g00890/impl.chip"], apart := false, laid := [("loop.example/g00890/impl.chip", laid_loop_example_g00890_impl_chip)], narrowed := true }
def FnExactRectsOverlapUptoSaid : Prop := fnExactRectsOverlapUptoRow.holds Tryd.pinned (OpenSpec.upto fnExactRectsOverlapSpec)

/-- 'laws.FnExactRectsAbut', WHERE WHAT IT READS IS OF BULK AT MOST 1048576: true; the input reads as it did. -/
def fnExactRectsAbutUptoRow : OpenClaim := { program := "ytdcddneanbplpaadoor", sum := "80ca36a0e01605a8223446ba47197e2ed34b80f5ebf9a9baa1f6961b876354cb", func := "loop.example/g00890/laws.FnExactRectsAbut", spec := "fnExactRectsAbut", named := ["loop.example/g00890/impl.chip"], apart := false, laid := [("loop.example/g00890/impl.chip", laid_loop_example_g00890_impl_chip)], narrowed := true }
def FnExactRectsAbutUptoSaid : Prop := fnExactRectsAbutUptoRow.holds Tryd.pinned (OpenSpec.upto fnExactRectsAbutSpec)

/-- 'laws.FnExactIntersectRects', WHERE WHAT IT READS IS OF BULK AT MOST 1048576: true; the input reads as it did. -/
def fnExactIntersectRectsUptoRow : OpenClaim := { program := "ytdcddneanbplpaadoor", sum := "80ca36a0e01605a8223446ba47197e2ed34b80f5ebf9a9baa1f6961b876354cb", func := "loop.example/g00890/laws.FnExactIntersectRects", spec := "fnExactIntersectRects", named := ["loop.example/g00890/impl.chip"], apart := false, laid := [("loop.example/g00890/impl.chip", laid_loop_example_g00890_impl_chip)], narrowed := true }
def FnExactIntersectRectsUptoSaid : Prop := fnExactIntersectRectsUptoRow.holds Tryd.pinned (OpenSpec.upto fnExactIntersectRectsSpec)

/-- 'laws.FnExactBoundingBox', WHERE WHAT IT READS IS OF BULK AT MOST 1048576: true; the input reads as it did. -/
def fnExactBoundingBoxUptoRow : OpenClaim := { program := "ytdcddneanbplpaadoor", sum := "80ca36a0e01605a8223446ba47197e2ed34b80f5ebf9a9baa1f6961b876354cb", func := "loop.example/g00890/laws.FnExactBoundingBox", spec := "fnExactBoundingBox", named := ["loop.example/g00890/impl.chip"], apart := false, laid := [("loop.example/g00890/impl.chip", laid_loop_example_g00890_impl_chip)], narrowed := true }
def FnExactBoundingBoxUptoSaid : Prop := fnExactBoundingBoxUptoRow.holds Tryd.pinned (OpenSpec.upto fnExactBoundingBoxSpec)

/-- 'laws.FnExactRectGap', WHERE WHAT IT READS IS OF BULK AT MOST 1048576: true; the input reads as it did. -/
def fnExactRectGapUptoRow : OpenClaim := { program := "ytdcddneanbplpaadoor", sum := "80ca36a0e01605a8223446ba47197e2ed34b80f5ebf9a9baa1f6961b876354cb", func := "loop.example/g00890/laws.FnExactRectGap", spec := "fnExactRectGap", named := ["loop.example/g00890/impl.chip"], apart := false, laid := [("loop.example/g00890/impl.chip", laid_loop_example_g00890_impl_chip)], narrowed := true }
def FnExactRectGapUptoSaid : Prop := fnExactRectGapUptoRow.holds Tryd.pinned (OpenSpec.upto fnExactRectGapSpec)

/-- 'laws.FnExactMoveRect', WHERE WHAT IT READS IS OF BULK AT MOST 1048576: true; the input reads as it did. -/
def fnExactMoveRectUptoRow : OpenClaim := { program := "ytdcddneanbplpaadoor", sum := "80ca36a0e01605a8223446ba47197e2ed34b80f5ebf9a9baa1f6961b876354cb", func := "loop.example/g00890/laws.FnExactMoveRect", spec := "fnExactMoveRect", named := ["loop.example/g00890/impl.chip", "loop.example/g00890/impl.orientationMatrices"], apart := false, laid := [("loop.example/g00890/impl.orientationMatrices", laid_loop_example_g00890_impl_orientationMatrices), ("loop.example/g00890/impl.chip", laid_loop_example_g00890_impl_chip)], narrowed := true }
def FnExactMoveRectUptoSaid : Prop := fnExactMoveRectUptoRow.holds Tryd.pinned (OpenSpec.upto fnExactMoveRectSpec)

/-- 'laws.FnBoolean', WHERE WHAT IT READS IS OF BULK AT MOST 1048576: true; the input reads as it did. -/
def fnBooleanUptoRow : OpenClaim := { program := "ytdcddneanbplpaadoor", sum := "80ca36a0e01605a8223446ba47197e2ed34b80f5ebf9a9baa1f6961b876354cb", func := "loop.example/g00890/laws.FnBoolean", spec := "fnBoolean", unfollowed := true, recurses := true, named := ["loop.example/g00890/impl.chip", "math/bits.deBruijn64tab"], apart := false, laid := [("math/bits.deBruijn64tab", laid_math_bits_deBruijn64tab), ("loop.example/g00890/impl.chip", laid_loop_example_g00890_impl_chip)], narrowed := true }
def FnBooleanUptoSaid : Prop := fnBooleanUptoRow.holds Tryd.pinned (OpenSpec.upto fnBooleanSpec)

/-- 'laws.FnDistributive', WHERE WHAT IT READS IS OF BULK AT MOST 1048576: true; the input reads as it did. -/
def fnDistributiveUptoRow : OpenClaim := { program := "ytdcddneanbplpaadoor", sum := "80ca36a0e01605a8223446ba47197e2ed34b80f5ebf9a9baa1f6961b876354cb", func := "loop.example/g00890/laws.FnDistributive", spec := "fnDistributive", unfollowed := true, recurses := true, named := ["loop.example/g00890/impl.chip", "math/bits.deBruijn64tab"], apart := false, laid := [("math/bits.deBruijn64tab", laid_math_bits_deBruijn64tab), ("loop.example/g00890/impl.chip", laid_loop_example_g00890_impl_chip)], narrowed := true }
def FnDistributiveUptoSaid : Prop := fnDistributiveUptoRow.holds Tryd.pinned (OpenSpec.upto fnDistributiveSpec)

/-- 'laws.FnAreas', WHERE WHAT IT READS IS OF BULK AT MOST 1048576: true; the input reads as it did. -/
def fnAreasUptoRow : OpenClaim := { program := "ytdcddneanbplpaadoor", sum := "80ca36a0e01605a8223446ba47197e2ed34b80f5ebf9a9baa1f6961b876354cb", func := "loop.example/g00890/laws.FnAreas", spec := "fnAreas", unfollowed := true, recurses := true, named := ["loop.example/g00890/impl.chip", "math/bits.deBruijn64tab"], apart := false, laid := [("math/bits.deBruijn64tab", laid_math_bits_deBruijn64tab), ("loop.example/g00890/impl.chip", laid_loop_example_g00890_impl_chip)], narrowed := true }
def FnAreasUptoSaid : Prop := fnAreasUptoRow.holds Tryd.pinned (OpenSpec.upto fnAreasSpec)

/-- 'laws.FnRegionOf', WHERE WHAT IT READS IS OF BULK AT MOST 1048576: true; the input reads as it did. -/
def fnRegionOfUptoRow : OpenClaim := { program := "ytdcddneanbplpaadoor", sum := "80ca36a0e01605a8223446ba47197e2ed34b80f5ebf9a9baa1f6961b876354cb", func := "loop.example/g00890/laws.FnRegionOf", spec := "fnRegionOf", unfollowed := true, recurses := true, named := ["loop.example/g00890/impl.chip", "math/bits.deBruijn64tab"], apart := false, laid := [("math/bits.deBruijn64tab", laid_math_bits_deBruijn64tab), ("loop.example/g00890/impl.chip", laid_loop_example_g00890_impl_chip)], narrowed := true }
def FnRegionOfUptoSaid : Prop := fnRegionOfUptoRow.holds Tryd.pinned (OpenSpec.upto fnRegionOfSpec)

/-- 'laws.FnMoveRegions', WHERE WHAT IT READS IS OF BULK AT MOST 1048576: true; the input reads as it did. -/
def fnMoveRegionsUptoRow : OpenClaim := { program := "ytdcddneanbplpaadoor", sum := "80ca36a0e01605a8223446ba47197e2ed34b80f5ebf9a9baa1f6961b876354cb", func := "loop.example/g00890/laws.FnMoveRegions", spec := "fnMoveRegions", unfollowed := true, recurses := true, named := ["loop.example/g00890/impl.chip", "math/bits.deBruijn64tab", "loop.example/g00890/impl.orientationMatrices"], apart := false, laid := [("math/bits.deBruijn64tab", laid_math_bits_deBruijn64tab), ("loop.example/g00890/impl.orientationMatrices", laid_loop_example_g00890_impl_orientationMatrices), ("loop.example/g00890/impl.chip", laid_loop_example_g00890_impl_chip)], narrowed := true }
def FnMoveRegionsUptoSaid : Prop := fnMoveRegionsUptoRow.holds Tryd.pinned (OpenSpec.upto fnMoveRegionsSpec)

end Rows
end Go.Proofs.YtdcddneanbplpaaDoor
