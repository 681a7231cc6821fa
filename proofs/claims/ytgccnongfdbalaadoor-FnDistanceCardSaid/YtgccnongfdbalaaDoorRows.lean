/-
  NARROWER THAN 'FOR EVERY INPUT', by the rows' own cells (each row's printed sentence says how): FnRegionOf: laid · FnMoveRegions: laid · FnSizing: laid · FnOpening: laid · FnSquares: laid · FnDistance: laid · FnExactGrow: laid · FnExactShrink: laid · FnExactOpening: laid · FnExactClosing: laid · FnExactSquareCover: laid · FnExactOutline: laid · FnExactShiftRegion: laid · FnExactRegionDistance: laid.
  DERIVED. THE GIVEN ROWS OF THIS SEAT. 14 by the template 'for every input the law returns true; each argument reads behind the call as it read before'; 0 by the template 'total and deterministic' (their statements: YtgccnongfdbalaaDoorTotals.lean).
  GIVEN WITH THE SEED: the statements are not yours to turn. If you find one false, say at which input.
  Laid BY PROGRAM, IN A SANDBOX (cutbox-rows.mjs): the forced cells as the released guide's own fill.sh prints them over the translation d5383a5e040beedc… (all of the seat's roots in one cut). By AI agents, Wed Nov 11 2026. No macro, syntax, notation, axiom, sorry.
-/
import Derived.Test.YtgccnongfdbalaaDoorChecked
import GoSem.Claim
import GoSem.ClaimJoined
import GoSem.ClaimMapViews
import Derived.JoinedTies
import Derived.KernelRfl
namespace Go.Proofs.YtgccnongfdbalaaDoor
/- THE CELL 'sum', in the pinned program and in every row, IS THE sha256 OF THE DUMP (.gsa) THAT YtgccnongfdbalaaDoorProg.lean LOADS. Nothing in Lean hashes anything: it is a label: what it is worth is what the hold of that sum in a sandbox is worth. -/
noncomputable def Tryd.pinned : Pinned := { name := "ytgccnongfdbalaadoor", sum := "d5383a5e040beedcc6ced36623665d5911dc0c1eb9048dba62662bab79d41a74", checked := Tryd.checked }
namespace Rows
def none {H : Type} : Left H := { results := [], args := [] }

/- WHAT THE LISTED PACKAGE-LEVEL VARIABLES READ AS WHEN THE CALL BEGINS. Each datum BY PROGRAM (the guide's laid-datum.mjs) off the statement by which the dump's own 'gosem.cut.vars' lays the variable. In a bare row this is a premise. The card (YtgccnongfdbalaaDoorCards.lean) ties it to the program's text. -/
def laid_math_bits_deBruijn64tab {H : Type} : DataW H := .agg [.lit (.int .u8 0), .lit (.int .u8 1), .lit (.int .u8 56), .lit (.int .u8 2), .lit (.int .u8 57), .lit (.int .u8 49), .lit (.int .u8 28), .lit (.int .u8 3), .lit (.int .u8 61), .lit (.int .u8 58), .lit (.int .u8 42), .lit (.int .u8 50), .lit (.int .u8 38), .lit (.int .u8 29), .lit (.int .u8 17), .lit (.int .u8 4), .lit (.int .u8 62), .lit (.int .u8 47), .lit (.int .u8 59), .lit (.int .u8 36), .lit (.int .u8 45), .lit (.int .u8 43), .lit (.int .u8 51), .lit (.int .u8 22), .lit (.int .u8 53), .lit (.int .u8 39), .lit (.int .u8 33), .lit (.int .u8 30), .lit (.int .u8 24), .lit (.int .u8 18), .lit (.int .u8 12), .lit (.int .u8 5), .lit (.int .u8 63), .lit (.int .u8 55), .lit (.int .u8 48), .lit (.int .u8 27), .lit (.int .u8 60), .lit (.int .u8 41), .lit (.int .u8 37), .lit (.int .u8 16), .lit (.int .u8 46), .lit (.int .u8 35), .lit (.int .u8 44), .lit (.int .u8 21), .lit (.int .u8 52), .lit (.int .u8 32), .lit (.int .u8 23), .lit (.int .u8 11), .lit (.int .u8 54), .lit (.int .u8 26), .lit (.int .u8 40), .lit (.int .u8 15), .lit (.int .u8 34), .lit (.int .u8 20), .lit (.int .u8 31), .lit (.int .u8 10), .lit (.int .u8 25), .lit (.int .u8 14), .lit (.int .u8 19), .lit (.int .u8 9), .lit (.int .u8 13), .lit (.int .u8 8), .lit (.int .u8 7), .lit (.int .u8 6)]
def laid_loop_example_g00890_impl_chip {H : Type} : DataW H := .agg [.lit (.int .i64 (-40)), .lit (.int .i64 (-40)), .lit (.int .i64 40), .lit (.int .i64 40)]
def laid_loop_example_g00890_impl_orientationMatrices {H : Type} : DataW H := .agg [.agg [.lit (.int .i64 1), .lit (.int .i64 0), .lit (.int .i64 0), .lit (.int .i64 1)], .agg [.lit (.int .i64 0), .lit (.int .i64 (-1)), .lit (.int .i64 1), .lit (.int .i64 0)], .agg [.lit (.int .i64 (-1)), .lit (.int .i64 0), .lit (.int .i64 0), .lit (.int .i64 (-1))], .agg [.lit (.int .i64 0), .lit (.int .i64 1), .lit (.int .i64 (-1)), .lit (.int .i64 0)], .agg [.lit (.int .i64 1), .lit (.int .i64 0), .lit (.int .i64 0), .lit (.int .i64 (-1))], .agg [.lit (.int .i64 0), .lit (.int .i64 1), .lit (.int .i64 1), .lit (.int .i64 0)], .agg [.lit (.int .i64 (-1)), .lit (.int .i64 0), .lit (.int .i64 0), .lit (.int .i64 1)], .agg [.lit (.int .i64 0), .lit (.int .i64 (-1)), .lit (.int .i64 (-1)), .lit (.int .i64 0)]]

/-- 'laws.FnRegionOf': WHATEVER THE INPUT: true; the input reads as it did. -/
def fnRegionOfSpec : ChangeSpec := { name := "fnRegionOf", vars := ["loop.example/g00890/impl.chip"], fn := fun _ => fun
  | [d, g1] => { results := [.lit (.bool true)], args := [d], vars := [g1] }
  | _ => none }
def fnRegionOfRow : OpenClaim := { program := "ytgccnongfdbalaadoor", sum := "d5383a5e040beedcc6ced36623665d5911dc0c1eb9048dba62662bab79d41a74", func := "loop.example/g00890/laws.FnRegionOf", spec := "fnRegionOf", unfollowed := true, recurses := true, named := ["loop.example/g00890/impl.chip", "math/bits.deBruijn64tab"], apart := false, laid := [("math/bits.deBruijn64tab", laid_math_bits_deBruijn64tab), ("loop.example/g00890/impl.chip", laid_loop_example_g00890_impl_chip)] }
def FnRegionOfSaid : Prop := fnRegionOfRow.holds Tryd.pinned (OpenSpec.ofChange fnRegionOfSpec)

/-- ITS FALSE NEIGHBOUR: 'it returns false'. Refute it at one input. -/
def fnRegionOfWrong : ChangeSpec := { name := "fnRegionOf", vars := ["loop.example/g00890/impl.chip"], fn := fun _ => fun
  | [d, g1] => { results := [.lit (.bool false)], args := [d], vars := [g1] }
  | _ => none }
def FnRegionOfWrongFalsely : Prop := fnRegionOfRow.holds Tryd.pinned (OpenSpec.ofChange fnRegionOfWrong)

/-- 'laws.FnMoveRegions': WHATEVER THE INPUT: true; the input reads as it did. -/
def fnMoveRegionsSpec : ChangeSpec := { name := "fnMoveRegions", vars := ["loop.example/g00890/impl.chip", "loop.example/g00890/impl.orientationMatrices"], fn := fun _ => fun
  | [d, g1, g2] => { results := [.lit (.bool true)], args := [d], vars := [g1, g2] }
  | _ => none }
def fnMoveRegionsRow : OpenClaim := { program := "ytgccnongfdbalaadoor", sum := "d5383a5e040beedcc6ced36623665d5911dc0c1eb9048dba62662bab79d41a74", func := "loop.example/g00890/laws.FnMoveRegions", spec := "fnMoveRegions", unfollowed := true, recurses := true, named := ["loop.example/g00890/impl.chip", "math/bits.deBruijn64tab", "loop.example/g00890/impl.orientationMatrices"], apart := false, laid := [("math/bits.deBruijn64tab", laid_math_bits_deBruijn64tab), ("loop.example/g00890/impl.orientationMatrices", laid_loop_example_g00890_impl_orientationMatrices), ("loop.example/g00890/impl.chip", laid_loop_example_g00890_impl_chip)] }
def FnMoveRegionsSaid : Prop := fnMoveRegionsRow.holds Tryd.pinned (OpenSpec.ofChange fnMoveRegionsSpec)

/-- ITS FALSE NEIGHBOUR: 'it returns false'. Refute it at one input. -/
def fnMoveRegionsWrong : ChangeSpec := { name := "fnMoveRegions", vars := ["loop.example/g00890/impl.chip", "loop.example/g00890/impl.orientationMatrices"], fn := fun _ => fun
  | [d, g1, g2] => { results := [.lit (.bool false)], args := [d], vars := [g1, g2] }
  | _ => none }
def FnMoveRegionsWrongFalsely : Prop := fnMoveRegionsRow.holds Tryd.pinned (OpenSpec.ofChange fnMoveRegionsWrong)

/-- 'laws.FnSizing': WHATEVER THE INPUT: true; the input reads as it did. -/
def fnSizingSpec : ChangeSpec := { name := "fnSizing", vars := ["loop.example/g00890/impl.chip"], fn := fun _ => fun
  | [d, g1] => { results := [.lit (.bool true)], args := [d], vars := [g1] }
  | _ => none }
def fnSizingRow : OpenClaim := { program := "ytgccnongfdbalaadoor", sum := "d5383a5e040beedcc6ced36623665d5911dc0c1eb9048dba62662bab79d41a74", func := "loop.example/g00890/laws.FnSizing", spec := "fnSizing", unfollowed := true, recurses := true, named := ["loop.example/g00890/impl.chip", "math/bits.deBruijn64tab"], apart := false, laid := [("math/bits.deBruijn64tab", laid_math_bits_deBruijn64tab), ("loop.example/g00890/impl.chip", laid_loop_example_g00890_impl_chip)] }
def FnSizingSaid : Prop := fnSizingRow.holds Tryd.pinned (OpenSpec.ofChange fnSizingSpec)

/-- ITS FALSE NEIGHBOUR: 'it returns false'. Refute it at one input. -/
def fnSizingWrong : ChangeSpec := { name := "fnSizing", vars := ["loop.example/g00890/impl.chip"], fn := fun _ => fun
  | [d, g1] => { results := [.lit (.bool false)], args := [d], vars := [g1] }
  | _ => none }
def FnSizingWrongFalsely : Prop := fnSizingRow.holds Tryd.pinned (OpenSpec.ofChange fnSizingWrong)

/-- 'laws.FnOpening': WHATEVER THE INPUT: true; the input reads as it did. -/
def fnOpeningSpec : ChangeSpec := { name := "fnOpening", vars := ["loop.example/g00890/impl.chip"], fn := fun _ => fun
  | [d, g1] => { results := [.lit (.bool true)], args := [d], vars := [g1] }
  | _ => none }
def fnOpeningRow : OpenClaim := { program := "ytgccnongfdbalaadoor", sum := "d5383a5e040beedcc6ced36623665d5911dc0c1eb9048dba62662bab79d41a74", func := "loop.example/g00890/laws.FnOpening", spec := "fnOpening", unfollowed := true, recurses := true, named := ["loop.example/g00890/impl.chip", "math/bits.deBruijn64tab"], apart := false, laid := [("math/bits.deBruijn64tab", laid_math_bits_deBruijn64tab), ("loop.example/g00890/impl.chip", laid_loop_example_g00890_impl_chip)] }
def FnOpeningSaid : Prop := fnOpeningRow.holds Tryd.pinned (OpenSpec.ofChange fnOpeningSpec)

/-- ITS FALSE NEIGHBOUR: 'it returns false'. Refute it at one input. -/
def fnOpeningWrong : ChangeSpec := { name := "fnOpening", vars := ["loop.example/g00890/impl.chip"], fn := fun _ => fun
  | [d, g1] => { results := [.lit (.bool false)], args := [d], vars := [g1] }
  | _ => none }
def FnOpeningWrongFalsely : Prop := fnOpeningRow.holds Tryd.pinned (OpenSpec.ofChange fnOpeningWrong)

/-- 'laws.FnSquares': WHATEVER THE INPUT: true; the input reads as it did. -/
def fnSquaresSpec : ChangeSpec := { name := "fnSquares", vars := ["loop.example/g00890/impl.chip"], fn := fun _ => fun
  | [d, g1] => { results := [.lit (.bool true)], args := [d], vars := [g1] }
  | _ => none }
def fnSquaresRow : OpenClaim := { program := "ytgccnongfdbalaadoor", sum := "d5383a5e040beedcc6ced36623665d5911dc0c1eb9048dba62662bab79d41a74", func := "loop.example/g00890/laws.FnSquares", spec := "fnSquares", unfollowed := true, recurses := true, named := ["loop.example/g00890/impl.chip", "math/bits.deBruijn64tab"], apart := false, laid := [("math/bits.deBruijn64tab", laid_math_bits_deBruijn64tab), ("loop.example/g00890/impl.chip", laid_loop_example_g00890_impl_chip)] }
def FnSquaresSaid : Prop := fnSquaresRow.holds Tryd.pinned (OpenSpec.ofChange fnSquaresSpec)

/-- ITS FALSE NEIGHBOUR: 'it returns false'. Refute it at one input. -/
def fnSquaresWrong : ChangeSpec := { name := "fnSquares", vars := ["loop.example/g00890/impl.chip"], fn := fun _ => fun
  | [d, g1] => { results := [.lit (.bool false)], args := [d], vars := [g1] }
  | _ => none }
def FnSquaresWrongFalsely : Prop := fnSquaresRow.holds Tryd.pinned (OpenSpec.ofChange fnSquaresWrong)

/-- 'laws.FnDistance': WHATEVER THE INPUT: true; the input reads as it did. -/
def fnDistanceSpec : ChangeSpec := { name := "fnDistance", vars := ["loop.example/g00890/impl.chip"], fn := fun _ => fun
  | [d, g1] => { results := [.lit (.bool true)], args := [d], vars := [g1] }
  | _ => none }
def fnDistanceRow : OpenClaim := { program := "ytgccnongfdbalaadoor", sum := "d5383a5e040beedcc6ced36623665d5911dc0c1eb9048dba62662bab79d41a74", func := "loop.example/g00890/laws.FnDistance", spec := "fnDistance", unfollowed := true, recurses := true, named := ["loop.example/g00890/impl.chip", "math/bits.deBruijn64tab"], apart := false, laid := [("math/bits.deBruijn64tab", laid_math_bits_deBruijn64tab), ("loop.example/g00890/impl.chip", laid_loop_example_g00890_impl_chip)] }
def FnDistanceSaid : Prop := fnDistanceRow.holds Tryd.pinned (OpenSpec.ofChange fnDistanceSpec)

/-- ITS FALSE NEIGHBOUR: 'it returns false'. Refute it at one input. -/
def fnDistanceWrong : ChangeSpec := { name := "fnDistance", vars := ["loop.example/g00890/impl.chip"], fn := fun _ => fun
  | [d, g1] => { results := [.lit (.bool false)], args := [d], vars := [g1] }
  | _ => none }
def FnDistanceWrongFalsely : Prop := fnDistanceRow.holds Tryd.pinned (OpenSpec.ofChange fnDistanceWrong)

/-- 'laws.FnExactGrow': WHATEVER THE INPUT: true; the input reads as it did. -/
def fnExactGrowSpec : ChangeSpec := { name := "fnExactGrow", vars := ["loop.example/g00890/impl.chip"], fn := fun _ => fun
  | [d1, d2, g1] => { results := [.lit (.bool true)], args := [d1, d2], vars := [g1] }
  | _ => none }
def fnExactGrowRow : OpenClaim := { program := "ytgccnongfdbalaadoor", sum := "d5383a5e040beedcc6ced36623665d5911dc0c1eb9048dba62662bab79d41a74", func := "loop.example/g00890/laws.FnExactGrow", spec := "fnExactGrow", unfollowed := true, recurses := true, named := ["loop.example/g00890/impl.chip", "math/bits.deBruijn64tab"], apart := false, laid := [("math/bits.deBruijn64tab", laid_math_bits_deBruijn64tab), ("loop.example/g00890/impl.chip", laid_loop_example_g00890_impl_chip)] }
def FnExactGrowSaid : Prop := fnExactGrowRow.holds Tryd.pinned (OpenSpec.ofChange fnExactGrowSpec)

/-- ITS FALSE NEIGHBOUR: 'it returns false'. Refute it at one input. -/
def fnExactGrowWrong : ChangeSpec := { name := "fnExactGrow", vars := ["loop.example/g00890/impl.chip"], fn := fun _ => fun
  | [d1, d2, g1] => { results := [.lit (.bool false)], args := [d1, d2], vars := [g1] }
  | _ => none }
def FnExactGrowWrongFalsely : Prop := fnExactGrowRow.holds Tryd.pinned (OpenSpec.ofChange fnExactGrowWrong)

/-- 'laws.FnExactShrink': WHATEVER THE INPUT: true; the input reads as it did. -/
def fnExactShrinkSpec : ChangeSpec := { name := "fnExactShrink", vars := ["loop.example/g00890/impl.chip"], fn := fun _ => fun
  | [d1, d2, g1] => { results := [.lit (.bool true)], args := [d1, d2], vars := [g1] }
  | _ => none }
def fnExactShrinkRow : OpenClaim := { program := "ytgccnongfdbalaadoor", sum := "d5383a5e040beedcc6ced36623665d5911dc0c1eb9048dba62662bab79d41a74", func := "loop.example/g00890/laws.FnExactShrink", spec := "fnExactShrink", unfollowed := true, recurses := true, named := ["loop.example/g00890/impl.chip", "math/bits.deBruijn64tab"], apart := false, laid := [("math/bits.deBruijn64tab", laid_math_bits_deBruijn64tab), ("loop.example/g00890/impl.chip", laid_loop_example_g00890_impl_chip)] }
def FnExactShrinkSaid : Prop := fnExactShrinkRow.holds Tryd.pinned (OpenSpec.ofChange fnExactShrinkSpec)

/-- ITS FALSE NEIGHBOUR: 'it returns false'. Refute it at one input. -/
def fnExactShrinkWrong : ChangeSpec := { name := "fnExactShrink", vars := ["loop.example/g00890/impl.chip"], fn := fun _ => fun
  | [d1, d2, g1] => { results := [.lit (.bool false)], args := [d1, d2], vars := [g1] }
  | _ => none }
def FnExactShrinkWrongFalsely : Prop := fnExactShrinkRow.holds Tryd.pinned (OpenSpec.ofChange fnExactShrinkWrong)

/-- 'laws.FnExactOpening': WHATEVER THE INPUT: true; the input reads as it did. -/
def fnExactOpeningSpec : ChangeSpec := { name := "fnExactOpening", vars := ["loop.example/g00890/impl.chip"], fn := fun _ => fun
  | [d1, d2, g1] => { results := [.lit (.bool true)], args := [d1, d2], vars := [g1] }
  | _ => none }
def fnExactOpeningRow : OpenClaim := { program := "ytgccnongfdbalaadoor", sum := "d5383a5e040beedcc6ced36623665d5911dc0c1eb9048dba62662bab79d41a74", func := "loop.example/g00890/laws.FnExactOpening", spec := "fnExactOpening", unfollowed := true, recurses := true, named := ["loop.example/g00890/impl.chip", "math/bits.deBruijn64tab"], apart := false, laid := [("math/bits.deBruijn64tab", laid_math_bits_deBruijn64tab), ("loop.example/g00890/impl.chip", laid_loop_example_g00890_impl_chip)] }
def FnExactOpeningSaid : Prop := fnExactOpeningRow.holds Tryd.pinned (OpenSpec.ofChange fnExactOpeningSpec)

/-- ITS FALSE NEIGHBOUR: 'it returns false'. Refute it at one input. -/
def fnExactOpeningWrong : ChangeSpec := { name := "fnExactOpening", vars := ["loop.example/g00890/impl.chip"], fn := fun _ => fun
  | [d1, d2, g1] => { results := [.lit (.bool false)], args := [d1, d2], vars := [g1] }
  | _ => none }
def FnExactOpeningWrongFalsely : Prop := fnExactOpeningRow.holds Tryd.pinned (OpenSpec.ofChange fnExactOpeningWrong)

/-- 'laws.FnExactClosing': WHATEVER THE INPUT: true; the input reads as it did. -/
def fnExactClosingSpec : ChangeSpec := { name := "fnExactClosing", vars := ["loop.example/g00890/impl.chip"], fn := fun _ => fun
  | [d1, d2, g1] => { results := [.lit (.bool true)], args := [d1, d2], vars := [g1] }
  | _ => none }
def fnExactClosingRow : OpenClaim := { program := "ytgccnongfdbalaadoor", sum := "d5383a5e040beedcc6ced36623665d5911dc0c1eb9048dba62662bab79d41a74", func := "loop.example/g00890/laws.FnExactClosing", spec := "fnExactClosing", unfollowed := true, recurses := true, named := ["loop.example/g00890/impl.chip", "math/bits.deBruijn64tab"], apart := false, laid := [("math/bits.deBruijn64tab", laid_math_bits_deBruijn64tab), ("loop.example/g00890/impl.chip", laid_loop_example_g00890_impl_chip)] }
def FnExactClosingSaid : Prop := fnExactClosingRow.holds Tryd.pinned (OpenSpec.ofChange fnExactClosingSpec)

/-- ITS FALSE NEIGHBOUR: 'it returns false'. Refute it at one input. -/
def fnExactClosingWrong : ChangeSpec := { name := "fnExactClosing", vars := ["loop.example/g00890/impl.chip"], fn := fun _ => fun
  | [d1, d2, g1] => { results := [.lit (.bool false)], args := [d1, d2], vars := [g1] }
  | _ => none }
def FnExactClosingWrongFalsely : Prop := fnExactClosingRow.holds Tryd.pinned (OpenSpec.ofChange fnExactClosingWrong)

/-- 'laws.FnExactSquareCover': WHATEVER THE INPUT: true; the input reads as it did. -/
def fnExactSquareCoverSpec : ChangeSpec := { name := "fnExactSquareCover", vars := ["loop.example/g00890/impl.chip"], fn := fun _ => fun
  | [d1, d2, g1] => { results := [.lit (.bool true)], args := [d1, d2], vars := [g1] }
  | _ => none }
def fnExactSquareCoverRow : OpenClaim := { program := "ytgccnongfdbalaadoor", sum := "d5383a5e040beedcc6ced36623665d5911dc0c1eb9048dba62662bab79d41a74", func := "loop.example/g00890/laws.FnExactSquareCover", spec := "fnExactSquareCover", unfollowed := true, recurses := true, named := ["loop.example/g00890/impl.chip", "math/bits.deBruijn64tab"], apart := false, laid := [("math/bits.deBruijn64tab", laid_math_bits_deBruijn64tab), ("loop.example/g00890/impl.chip", laid_loop_example_g00890_impl_chip)] }
def FnExactSquareCoverSaid : Prop := fnExactSquareCoverRow.holds Tryd.pinned (OpenSpec.ofChange fnExactSquareCoverSpec)

/-- ITS FALSE NEIGHBOUR: 'it returns false'. Refute it at one input. -/
def fnExactSquareCoverWrong : ChangeSpec := { name := "fnExactSquareCover", vars := ["loop.example/g00890/impl.chip"], fn := fun _ => fun
  | [d1, d2, g1] => { results := [.lit (.bool false)], args := [d1, d2], vars := [g1] }
  | _ => none }
def FnExactSquareCoverWrongFalsely : Prop := fnExactSquareCoverRow.holds Tryd.pinned (OpenSpec.ofChange fnExactSquareCoverWrong)

/-- 'laws.FnExactOutline': WHATEVER THE INPUT: true; the input reads as it did. -/
def fnExactOutlineSpec : ChangeSpec := { name := "fnExactOutline", vars := ["loop.example/g00890/impl.chip"], fn := fun _ => fun
  | [d1, d2, g1] => { results := [.lit (.bool true)], args := [d1, d2], vars := [g1] }
  | _ => none }
def fnExactOutlineRow : OpenClaim := { program := "ytgccnongfdbalaadoor", sum := "d5383a5e040beedcc6ced36623665d5911dc0c1eb9048dba62662bab79d41a74", func := "loop.example/g00890/laws.FnExactOutline", spec := "fnExactOutline", unfollowed := true, recurses := true, named := ["loop.example/g00890/impl.chip", "math/bits.deBruijn64tab"], apart := false, laid := [("math/bits.deBruijn64tab", laid_math_bits_deBruijn64tab), ("loop.example/g00890/impl.chip", laid_loop_example_g00890_impl_chip)] }
def FnExactOutlineSaid : Prop := fnExactOutlineRow.holds Tryd.pinned (OpenSpec.ofChange fnExactOutlineSpec)

/-- ITS FALSE NEIGHBOUR: 'it returns false'. Refute it at one input. -/
def fnExactOutlineWrong : ChangeSpec := { name := "fnExactOutline", vars := ["loop.example/g00890/impl.chip"], fn := fun _ => fun
  | [d1, d2, g1] => { results := [.lit (.bool false)], args := [d1, d2], vars := [g1] }
  | _ => none }
def FnExactOutlineWrongFalsely : Prop := fnExactOutlineRow.holds Tryd.pinned (OpenSpec.ofChange fnExactOutlineWrong)

/-- 'laws.FnExactShiftRegion': WHATEVER THE INPUT: true; the input reads as it did. -/
def fnExactShiftRegionSpec : ChangeSpec := { name := "fnExactShiftRegion", vars := ["loop.example/g00890/impl.chip", "loop.example/g00890/impl.orientationMatrices"], fn := fun _ => fun
  | [d1, d2, d3, g1, g2] => { results := [.lit (.bool true)], args := [d1, d2, d3], vars := [g1, g2] }
  | _ => none }
def fnExactShiftRegionRow : OpenClaim := { program := "ytgccnongfdbalaadoor", sum := "d5383a5e040beedcc6ced36623665d5911dc0c1eb9048dba62662bab79d41a74", func := "loop.example/g00890/laws.FnExactShiftRegion", spec := "fnExactShiftRegion", unfollowed := true, recurses := true, named := ["loop.example/g00890/impl.chip", "math/bits.deBruijn64tab", "loop.example/g00890/impl.orientationMatrices"], apart := false, laid := [("math/bits.deBruijn64tab", laid_math_bits_deBruijn64tab), ("loop.example/g00890/impl.orientationMatrices", laid_loop_example_g00890_impl_orientationMatrices), ("loop.example/g00890/impl.chip", laid_loop_example_g00890_impl_chip)] }
def FnExactShiftRegionSaid : Prop := fnExactShiftRegionRow.holds Tryd.pinned (OpenSpec.ofChange fnExactShiftRegionSpec)

/-- ITS FALSE NEIGHBOUR: 'it returns false'. Refute it at one input. -/
def fnExactShiftRegionWrong : ChangeSpec := { name := "fnExactShiftRegion", vars := ["loop.example/g00890/impl.chip", "loop.example/g00890/impl.orientationMatrices"], fn := fun _ => fun
  | [d1, d2, d3, g1, g2] => { results := [.lit (.bool false)], args := [d1, d2, d3], vars := [g1, g2] }
  | _ => none }
def FnExactShiftRegionWrongFalsely : Prop := fnExactShiftRegionRow.holds Tryd.pinned (OpenSpec.ofChange fnExactShiftRegionWrong)

/-- 'laws.FnExactRegionDistance': WHATEVER THE INPUT: true; the input reads as it did. -/
def fnExactRegionDistanceSpec : ChangeSpec := { name := "fnExactRegionDistance", vars := ["loop.example/g00890/impl.chip"], fn := fun _ => fun
  | [d1, d2, g1] => { results := [.lit (.bool true)], args := [d1, d2], vars := [g1] }
  | _ => none }
def fnExactRegionDistanceRow : OpenClaim := { program := "ytgccnongfdbalaadoor", sum := "d5383a5e040beedcc6ced36623665d5911dc0c1eb9048dba62662bab79d41a74", func := "loop.example/g00890/laws.FnExactRegionDistance", spec := "fnExactRegionDistance", unfollowed := true, recurses := true, named := ["loop.example/g00890/impl.chip", "math/bits.deBruijn64tab"], apart := false, laid := [("math/bits.deBruijn64tab", laid_math_bits_deBruijn64tab), ("loop.example/g00890/impl.chip", laid_loop_example_g00890_impl_chip)] }
def FnExactRegionDistanceSaid : Prop := fnExactRegionDistanceRow.holds Tryd.pinned (OpenSpec.ofChange fnExactRegionDistanceSpec)

/-- ITS FALSE NEIGHBOUR: 'it returns false'. Refute it at one input. -/
def fnExactRegionDistanceWrong : ChangeSpec := { name := "fnExactRegionDistance", vars := ["loop.example/g00890/impl.chip"], fn := fun _ => fun
  | [d1, d2, g1] => { results := [.lit (.bool false)], args := [d1, d2], vars := [g1] }
  | _ => none }
def FnExactRegionDistanceWrongFalsely : Prop := fnExactRegionDistanceRow.holds Tryd.pinned (OpenSpec.ofChange fnExactRegionDistanceWrong)

/- THE SECOND FORM. 'bulk': how many values and letters a reading holds, each counted each time it is reached (what is shared counts as often as it is met; a slice's spare places count too). A statement '..UptoSaid' is the law's where the arguments, and the package variables that the reading takes, are together of bulk at most 1048576: NARROWER than '..Said'. Prove '..Said' where nothing that the law and all that it calls make is longer than what came in: it says more and counts as full. Else prove '..UptoSaid'. A law counts once. -/
mutual
def uptoBulk {H : Type} : DataW H → Nat
  | .lit (.string bytes) => bytes.length + 1
  | .lit _ => 1
  | .nil => 1
  | .ptr d => uptoBulk d + 1
  | .slice elems spare => uptoBulkAll elems + uptoBulkAll spare + 1
  | .agg parts => uptoBulkAll parts + 1
  | .iface _ d => uptoBulk d + 1
  | .map entries => uptoBulkEntries entries + 1
  | .held _ => 1
def uptoBulkAll {H : Type} : List (DataW H) → Nat
  | [] => 0
  | d :: r => uptoBulk d + uptoBulkAll r
def uptoBulkEntries {H : Type} : List (Lit × DataW H) → Nat
  | [] => 0
  | x :: r => uptoBulkEntry x + uptoBulkEntries r
def uptoBulkEntry {H : Type} : Lit × DataW H → Nat
  | (.string bytes, d) => bytes.length + uptoBulk d + 1
  | (_, d) => uptoBulk d + 1
 end
def uptoSmall : (H : Type) → List (DataW H) → Bool := fun _ ds => decide (uptoBulkAll ds ≤ 1048576)
def OpenSpec.upto (s : _root_.Go.ChangeSpec) : _root_.Go.OpenSpec := { _root_.Go.OpenSpec.ofChange s with cond := some uptoSmall }

/-- 'laws.FnRegionOf', WHERE WHAT IT READS IS OF BULK AT MOST 1048576: true; the input reads as it did. -/
def fnRegionOfUptoRow : OpenClaim := { program := "ytgccnongfdbalaadoor", sum := "d5383a5e040beedcc6ced36623665d5911dc0c1eb9048dba62662bab79d41a74", func := "loop.example/g00890/laws.FnRegionOf", spec := "fnRegionOf", unfollowed := true, recurses := true, named := ["loop.example/g00890/impl.chip", "math/bits.deBruijn64tab"], apart := false, laid := [("math/bits.deBruijn64tab", laid_math_bits_deBruijn64tab), ("loop.example/g00890/impl.chip", laid_loop_example_g00890_impl_chip)], narrowed := true }
def FnRegionOfUptoSaid : Prop := fnRegionOfUptoRow.holds Tryd.pinned (OpenSpec.upto fnRegionOfSpec)

/-- 'laws.FnMoveRegions', WHERE WHAT IT READS IS OF BULK AT MOST 1048576: true; the input reads as it did. -/
def fnMoveRegionsUptoRow : OpenClaim := { program := "ytgccnongfdbalaadoor", sum := "d5383a5e040beedcc6ced36623665d5911dc0c1eb9048dba62662bab79d41a74", func := "loop.example/g00890/laws.FnMoveRegions", spec := "fnMoveRegions", unfollowed := true, recurses := true, named := ["loop.example/g00890/impl.chip", "math/bits.deBruijn64tab", "loop.example/g00890/impl.orientationMatrices"], apart := false, laid := [("math/bits.deBruijn64tab", laid_math_bits_deBruijn64tab), ("loop.example/g00890/impl.orientationMatrices", laid_loop_example_g00890_impl_orientationMatrices), ("loop.example/g00890/impl.chip", laid_loop_example_g00890_impl_chip)], narrowed := true }
def FnMoveRegionsUptoSaid : Prop := fnMoveRegionsUptoRow.holds Tryd.pinned (OpenSpec.upto fnMoveRegionsSpec)

/-- 'laws.FnSizing', WHERE WHAT IT READS IS OF BULK AT MOST 1048576: true; the input reads as it did. -/
def fnSizingUptoRow : OpenClaim := { program := "ytgccnongfdbalaadoor", sum := "d5383a5e040beedcc6ced36623665d5911dc0c1eb9048dba62662bab79d41a74", func := "loop.example/g00890/laws.FnSizing", spec := "fnSizing", unfollowed := true, recurses := true, named := ["loop.example/g00890/impl.chip", "math/bits.deBruijn64tab"], apart := false, laid := [("math/bits.deBruijn64tab", laid_math_bits_deBruijn64tab), ("loop.example/g00890/impl.chip", laid_loop_example_g00890_impl_chip)], narrowed := true }
def FnSizingUptoSaid : Prop := fnSizingUptoRow.holds Tryd.pinned (OpenSpec.upto fnSizingSpec)

/-- 'laws.FnOpening', WHERE WHAT IT READS IS OF BULK AT MOST 1048576: true; the input reads as it did. -/
def fnOpeningUptoRow : OpenClaim := { program := "ytgccnongfdbalaadoor", sum := "d5383a5e040beedcc6ced36623665d5911dc0c1eb9048dba62662bab79d41a74", func := "loop.example/g00890/laws.FnOpening", spec := "fnOpening", unfollowed := true, recurses := true, named := ["loop.example/g00890/impl.chip", "math/bits.deBruijn64tab"], apart := false, laid := [("math/bits.deBruijn64tab", laid_math_bits_deBruijn64tab), ("loop.example/g00890/impl.chip", laid_loop_example_g00890_impl_chip)], narrowed := true }
def FnOpeningUptoSaid : Prop := fnOpeningUptoRow.holds Tryd.pinned (OpenSpec.upto fnOpeningSpec)

/-- 'laws.FnSquares', WHERE WHAT IT READS IS OF BULK AT MOST 1048576: true; the input reads as it did. -/
def fnSquaresUptoRow : OpenClaim := { program := "ytgccnongfdbalaadoor", sum := "d5383a5e040beedcc6ced36623665d5911dc0c1eb9048dba62662bab79d41a74", func := "loop.example/g00890/laws.FnSquares", spec := "fnSquares", unfollowed := true, recurses := true, named := ["loop.example/g00890/impl.chip", "math/bits.deBruijn64tab"], apart := false, laid := [("math/bits.deBruijn64tab", laid_math_bits_deBruijn64tab), ("loop.example/g00890/impl.chip", laid_loop_example_g00890_impl_chip)], narrowed := true }
def FnSquaresUptoSaid : Prop := fnSquaresUptoRow.holds Tryd.pinned (OpenSpec.upto fnSquaresSpec)

/-- 'laws.FnDistance', WHERE WHAT IT READS IS OF BULK AT MOST 1048576: true; the input reads as it did. -/
def fnDistanceUptoRow : OpenClaim := { program := "ytgccnongfdbalaadoor", sum := "d5383a5e040beedcc6ced36623665d5911dc0c1eb9048dba62662bab79d41a74", func := "loop.example/g00890/laws.FnDistance", spec := "fnDistance", unfollowed := true, recurses := true, named := ["loop.example/g00890/impl.chip", "math/bits.deBruijn64tab"], apart := false, laid := [("math/bits.deBruijn64tab", laid_math_bits_deBruijn64tab), ("loop.example/g00890/impl.chip", laid_loop_example_g00890_impl_chip)], narrowed := true }
def FnDistanceUptoSaid : Prop := fnDistanceUptoRow.holds Tryd.pinned (OpenSpec.upto fnDistanceSpec)

/-- 'laws.FnExactGrow', WHERE WHAT IT READS IS OF BULK AT MOST 1048576: true; the input reads as it did. -/
def fnExactGrowUptoRow : OpenClaim := { program := "ytgccnongfdbalaadoor", sum := "d5383a5e040beedcc6ced36623665d5911dc0c1eb9048dba62662bab79d41a74", func := "loop.example/g00890/laws.FnExactGrow", spec := "fnExactGrow", unfollowed := true, recurses := true, named := ["loop.example/g00890/impl.chip", "math/bits.deBruijn64tab"], apart := false, laid := [("math/bits.deBruijn64tab", laid_math_bits_deBruijn64tab), ("loop.example/g00890/impl.chip", laid_loop_example_g00890_impl_chip)], narrowed := true }
def FnExactGrowUptoSaid : Prop := fnExactGrowUptoRow.holds Tryd.pinned (OpenSpec.upto fnExactGrowSpec)

/-- 'laws.FnExactShrink', WHERE WHAT IT READS IS OF BULK AT MOST 1048576: true; the input reads as it did. -/
def fnExactShrinkUptoRow : OpenClaim := { program := "ytgccnongfdbalaadoor", sum := "d5383a5e040beedcc6ced36623665d5911dc0c1eb9048dba62662bab79d41a74", func := "loop.example/g00890/laws.FnExactShrink", spec := "fnExactShrink", unfollowed := true, recurses := true, named := ["loop.example/g00890/impl.chip", "math/bits.deBruijn64tab"], apart := false, laid := [("math/bits.deBruijn64tab", laid_math_bits_deBruijn64tab), ("loop.example/g00890/impl.chip", laid_loop_example_g00890_impl_chip)], narrowed := true }
def FnExactShrinkUptoSaid : Prop := fnExactShrinkUptoRow.holds Tryd.pinned (OpenSpec.upto fnExactShrinkSpec)

/-- 'laws.FnExactOpening', WHERE WHAT IT READS IS OF BULK AT MOST 1048576: true; the input reads as it did. -/
def fnExactOpeningUptoRow : OpenClaim := { program := "ytgccnongfdbalaadoor", sum := "d5383a5e040beedcc6ced36623665d5911dc0c1eb9048dba62662bab79d41a74", func := "loop.example/g00890/laws.FnExactOpening", spec := "fnExactOpening", unfollowed := true, recurses := true, named := ["loop.example/g00890/impl.chip", "math/bits.deBruijn64tab"], apart := false, laid := [("math/bits.deBruijn64tab", laid_math_bits_deBruijn64tab), ("loop.example/g00890/impl.chip", laid_loop_example_g00890_impl_chip)], narrowed := true }
def FnExactOpeningUptoSaid : Prop := fnExactOpeningUptoRow.holds Tryd.pinned (OpenSpec.upto fnExactOpeningSpec)

/-- 'laws.FnExactClosing', WHERE WHAT IT READS IS OF BULK AT MOST 1048576: true; the input reads as it did. -/
def fnExactClosingUptoRow : OpenClaim := { program := "ytgccnongfdbalaadoor", sum := "d5383a5e040beedcc6ced36623665d5911dc0c1eb9048dba62662bab79d41a74", func := "loop.example/g00890/laws.FnExactClosing", spec := "fnExactClosing", unfollowed := true, recurses := true, named := ["loop.example/g00890/impl.chip", "math/bits.deBruijn64tab"], apart := false, laid := [("math/bits.deBruijn64tab", laid_math_bits_deBruijn64tab), ("loop.example/g00890/impl.chip", laid_loop_example_g00890_impl_chip)], narrowed := true }
def FnExactClosingUptoSaid : Prop := fnExactClosingUptoRow.holds Tryd.pinned (OpenSpec.upto fnExactClosingSpec)

/-- 'laws.FnExactSquareCover', WHERE WHAT IT READS IS OF BULK AT MOST 1048576: true; the input reads as it did. -/
def fnExactSquareCoverUptoRow : OpenClaim := { program := "ytgccnongfdbalaadoor", sum := "d5383a5e040beedcc6ced36623665d5911dc0c1eb9048dba62662bab79d41a74", func := "loop.example/g00890/laws.FnExactSquareCover", spec := "fnExactSquareCover", unfollowed := true, recurses := true, named := ["loop.example/g00890/impl.chip", "math/bits.deBruijn64tab"], apart := false, laid := [("math/bits.deBruijn64tab", laid_math_bits_deBruijn64tab), ("loop.example/g00890/impl.chip", laid_loop_example_g00890_impl_chip)], narrowed := true }
def FnExactSquareCoverUptoSaid : Prop := fnExactSquareCoverUptoRow.holds Tryd.pinned (OpenSpec.upto fnExactSquareCoverSpec)

/-- 'laws.FnExactOutline', WHERE WHAT IT READS IS OF BULK AT MOST 1048576: true; the input reads as it did. -/
def fnExactOutlineUptoRow : OpenClaim := { program := "ytgccnongfdbalaadoor", sum := "d5383a5e040beedcc6ced36623665d5911dc0c1eb9048dba62662bab79d41a74", func := "loop.example/g00890/laws.FnExactOutline", spec := "fnExactOutline", unfollowed := true, recurses := true, named := ["loop.example/g00890/impl.chip", "math/bits.deBruijn64tab"], apart := false, laid := [("math/bits.deBruijn64tab", laid_math_bits_deBruijn64tab), ("loop.example/g00890/impl.chip", laid_loop_example_g00890_impl_chip)], narrowed := true }
def FnExactOutlineUptoSaid : Prop := fnExactOutlineUptoRow.holds Tryd.pinned (OpenSpec.upto fnExactOutlineSpec)

/-- 'laws.FnExactShiftRegion', WHERE WHAT IT READS IS OF BULK AT MOST 1048576: true; the input reads as it did. -/
def fnExactShiftRegionUptoRow : OpenClaim := { program := "ytgccnongfdbalaadoor", sum := "d5383a5e040beedcc6ced36623665d5911dc0c1eb9048dba62662bab79d41a74", func := "loop.example/g00890/laws.FnExactShiftRegion", spec := "fnExactShiftRegion", unfollowed := true, recurses := true, named := ["loop.example/g00890/impl.chip", "math/bits.deBruijn64tab", "loop.example/g00890/impl.orientationMatrices"], apart := false, laid := [("math/bits.deBruijn64tab", laid_math_bits_deBruijn64tab), ("loop.example/g00890/impl.orientationMatrices", laid_loop_example_g00890_impl_orientationMatrices), ("loop.example/g00890/impl.chip", laid_loop_example_g00890_impl_chip)], narrowed := true }
def FnExactShiftRegionUptoSaid : Prop := fnExactShiftRegionUptoRow.holds Tryd.pinned (OpenSpec.upto fnExactShiftRegionSpec)

/-- 'laws.FnExactRegionDistance', WHERE WHAT IT READS IS OF BULK AT MOST 1048576: true; the input reads as it did. -/
def fnExactRegionDistanceUptoRow : OpenClaim := { program := "ytgccnongfdbalaadoor", sum := "d5383a5e040beedcc6ced36623665d5911dc0c1eb9048dba62662bab79d41a74", func := "loop.example/g00890/laws.FnExactRegionDistance", spec := "fnExactRegionDistance", unfollowed := true, recurses := true, named := ["loop.example/g00890/impl.chip", "math/bits.deBruijn64tab"], apart := false, laid := [("math/bits.deBruijn64tab", laid_math_bits_deBruijn64tab), ("loop.example/g00890/impl.chip", laid_loop_example_g00890_impl_chip)], narrowed := true }
def FnExactRegionDistanceUptoSaid : Prop := fnExactRegionDistanceUptoRow.holds Tryd.pinned (OpenSpec.upto fnExactRegionDistanceSpec)

end Rows
end Go.Proofs.YtgccnongfdbalaaDoor
