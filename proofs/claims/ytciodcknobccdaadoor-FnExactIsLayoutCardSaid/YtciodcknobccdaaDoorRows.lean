/-
  NARROWER THAN 'FOR EVERY INPUT', by the rows' own cells (each row's printed sentence says how): FnHierarchyOrder: laid · FnTransforms: laid · FnExactComposeTransforms: laid · FnExactCellDepth: laid · FnExactUsersOf: laid · FnExactReachableCells: laid · FnExactElementCount: laid · FnExactIsLayout: laid.
  DERIVED. THE GIVEN ROWS OF THIS SEAT. 8 by the template 'for every input the law returns true; each argument reads behind the call as it read before'; 0 by the template 'total and deterministic' (their statements: YtciodcknobccdaaDoorTotals.lean).
  GIVEN WITH THE SEED: the statements are not yours to turn. If you find one false, say at which input.
  Laid BY PROGRAM, IN A SANDBOX (cutbox-rows.mjs): the forced cells as the released guide's own fill.sh prints them over the translation ed40ffa871f043de… (all of the seat's roots in one cut). By AI agents, Wed Nov 11 2026. No macro, syntax, notation, axiom, sorry.
-/
import Derived.Test.YtciodcknobccdaaDoorChecked
import GoSem.Claim
import GoSem.ClaimJoined
import GoSem.ClaimMapViews
import Derived.JoinedTies
import Derived.KernelRfl
namespace Go.Proofs.YtciodcknobccdaaDoor
/- THE CELL 'sum', in the pinned program and in every row, IS THE sha256 OF THE DUMP (.gsa) THAT YtciodcknobccdaaDoorProg.lean LOADS. Nothing in Lean hashes anything: it is a label: what it is worth is what the hold of that sum in a sandbox is worth. -/
noncomputable def Tryd.pinned : Pinned := { name := "ytciodcknobccdaadoor", sum := "ed40ffa871f043de9da957f02491f4b97634c6f5da0bea5939c25b7ce0f81018", checked := Tryd.checked }
namespace Rows
def none {H : Type} : Left H := { results := [], args := [] }

/- WHAT THE LISTED PACKAGE-LEVEL VARIABLES READ AS WHEN THE CALL BEGINS. Each datum BY PROGRAM (the guide's laid-datum.mjs) off the statement by which the dump's own 'gosem.cut.vars' lays the variable. In a bare row this is a premise. The card (YtciodcknobccdaaDoorCards.lean) ties it to the program's text. -/
def laid_loop_example_g00890_impl_chip {H : Type} : DataW H := .agg [.lit (.int .i64 (-40)), .lit (.int .i64 (-40)), .lit (.int .i64 40), .lit (.int .i64 40)]
def laid_loop_example_g00890_impl_orientationMatrices {H : Type} : DataW H := .agg [.agg [.lit (.int .i64 1), .lit (.int .i64 0), .lit (.int .i64 0), .lit (.int .i64 1)], .agg [.lit (.int .i64 0), .lit (.int .i64 (-1)), .lit (.int .i64 1), .lit (.int .i64 0)], .agg [.lit (.int .i64 (-1)), .lit (.int .i64 0), .lit (.int .i64 0), .lit (.int .i64 (-1))], .agg [.lit (.int .i64 0), .lit (.int .i64 1), .lit (.int .i64 (-1)), .lit (.int .i64 0)], .agg [.lit (.int .i64 1), .lit (.int .i64 0), .lit (.int .i64 0), .lit (.int .i64 (-1))], .agg [.lit (.int .i64 0), .lit (.int .i64 1), .lit (.int .i64 1), .lit (.int .i64 0)], .agg [.lit (.int .i64 (-1)), .lit (.int .i64 0), .lit (.int .i64 0), .lit (.int .i64 1)], .agg [.lit (.int .i64 0), .lit (.int .i64 (-1)), .lit (.int .i64 (-1)), .lit (.int .i64 0)]]
def laid_math_bits_deBruijn64tab {H : Type} : DataW H := .agg [.lit (.int .u8 0), .lit (.int .u8 1), .lit (.int .u8 56), .lit (.int .u8 2), .lit (.int .u8 57), .lit (.int .u8 49), .lit (.int .u8 28), .lit (.int .u8 3), .lit (.int .u8 61), .lit (.int .u8 58), .lit (.int .u8 42), .lit (.int .u8 50), .lit (.int .u8 38), .lit (.int .u8 29), .lit (.int .u8 17), .lit (.int .u8 4), .lit (.int .u8 62), .lit (.int .u8 47), .lit (.int .u8 59), .lit (.int .u8 36), .lit (.int .u8 45), .lit (.int .u8 43), .lit (.int .u8 51), .lit (.int .u8 22), .lit (.int .u8 53), .lit (.int .u8 39), .lit (.int .u8 33), .lit (.int .u8 30), .lit (.int .u8 24), .lit (.int .u8 18), .lit (.int .u8 12), .lit (.int .u8 5), .lit (.int .u8 63), .lit (.int .u8 55), .lit (.int .u8 48), .lit (.int .u8 27), .lit (.int .u8 60), .lit (.int .u8 41), .lit (.int .u8 37), .lit (.int .u8 16), .lit (.int .u8 46), .lit (.int .u8 35), .lit (.int .u8 44), .lit (.int .u8 21), .lit (.int .u8 52), .lit (.int .u8 32), .lit (.int .u8 23), .lit (.int .u8 11), .lit (.int .u8 54), .lit (.int .u8 26), .lit (.int .u8 40), .lit (.int .u8 15), .lit (.int .u8 34), .lit (.int .u8 20), .lit (.int .u8 31), .lit (.int .u8 10), .lit (.int .u8 25), .lit (.int .u8 14), .lit (.int .u8 19), .lit (.int .u8 9), .lit (.int .u8 13), .lit (.int .u8 8), .lit (.int .u8 7), .lit (.int .u8 6)]

/-- 'laws.FnHierarchyOrder': WHATEVER THE INPUT: true; the input reads as it did. -/
def fnHierarchyOrderSpec : ChangeSpec := { name := "fnHierarchyOrder", vars := ["loop.example/g00890/impl.chip"], fn := fun _ => fun
  | [d, g1] => { results := [.lit (.bool true)], args := [d], vars := [g1] }
  | _ => none }
def fnHierarchyOrderRow : OpenClaim := { program := "ytciodcknobccdaadoor", sum := "ed40ffa871f043de9da957f02491f4b97634c6f5da0bea5939c25b7ce0f81018", func := "loop.example/g00890/laws.FnHierarchyOrder", spec := "fnHierarchyOrder", unfollowed := true, recurses := true, named := ["loop.example/g00890/impl.chip"], apart := false, laid := [("loop.example/g00890/impl.chip", laid_loop_example_g00890_impl_chip)] }
def FnHierarchyOrderSaid : Prop := fnHierarchyOrderRow.holds Tryd.pinned (OpenSpec.ofChange fnHierarchyOrderSpec)

/-- ITS FALSE NEIGHBOUR: 'it returns false'. Refute it at one input. -/
def fnHierarchyOrderWrong : ChangeSpec := { name := "fnHierarchyOrder", vars := ["loop.example/g00890/impl.chip"], fn := fun _ => fun
  | [d, g1] => { results := [.lit (.bool false)], args := [d], vars := [g1] }
  | _ => none }
def FnHierarchyOrderWrongFalsely : Prop := fnHierarchyOrderRow.holds Tryd.pinned (OpenSpec.ofChange fnHierarchyOrderWrong)

/-- 'laws.FnTransforms': WHATEVER THE INPUT: true; the input reads as it did. -/
def fnTransformsSpec : ChangeSpec := { name := "fnTransforms", vars := ["loop.example/g00890/impl.orientationMatrices"], fn := fun _ => fun
  | [d, g1] => { results := [.lit (.bool true)], args := [d], vars := [g1] }
  | _ => none }
def fnTransformsRow : OpenClaim := { program := "ytciodcknobccdaadoor", sum := "ed40ffa871f043de9da957f02491f4b97634c6f5da0bea5939c25b7ce0f81018", func := "loop.example/g00890/laws.FnTransforms", spec := "fnTransforms", named := ["loop.example/g00890/impl.orientationMatrices"], apart := false, laid := [("loop.example/g00890/impl.orientationMatrices", laid_loop_example_g00890_impl_orientationMatrices)] }
def FnTransformsSaid : Prop := fnTransformsRow.holds Tryd.pinned (OpenSpec.ofChange fnTransformsSpec)

/-- ITS FALSE NEIGHBOUR: 'it returns false'. Refute it at one input. -/
def fnTransformsWrong : ChangeSpec := { name := "fnTransforms", vars := ["loop.example/g00890/impl.orientationMatrices"], fn := fun _ => fun
  | [d, g1] => { results := [.lit (.bool false)], args := [d], vars := [g1] }
  | _ => none }
def FnTransformsWrongFalsely : Prop := fnTransformsRow.holds Tryd.pinned (OpenSpec.ofChange fnTransformsWrong)

/-- 'laws.FnExactComposeTransforms': WHATEVER THE INPUT: true; the input reads as it did. -/
def fnExactComposeTransformsSpec : ChangeSpec := { name := "fnExactComposeTransforms", vars := ["loop.example/g00890/impl.orientationMatrices"], fn := fun _ => fun
  | [d1, d2, g1] => { results := [.lit (.bool true)], args := [d1, d2], vars := [g1] }
  | _ => none }
def fnExactComposeTransformsRow : OpenClaim := { program := "ytciodcknobccdaadoor", sum := "ed40ffa871f043de9da957f02491f4b97634c6f5da0bea5939c25b7ce0f81018", func := "loop.example/g00890/laws.FnExactComposeTransforms", spec := "fnExactComposeTransforms", named := ["loop.example/g00890/impl.orientationMatrices"], apart := false, laid := [("loop.example/g00890/impl.orientationMatrices", laid_loop_example_g00890_impl_orientationMatrices)] }
def FnExactComposeTransformsSaid : Prop := fnExactComposeTransformsRow.holds Tryd.pinned (OpenSpec.ofChange fnExactComposeTransformsSpec)

/-- ITS FALSE NEIGHBOUR: 'it returns false'. Refute it at one input. -/
def fnExactComposeTransformsWrong : ChangeSpec := { name := "fnExactComposeTransforms", vars := ["loop.example/g00890/impl.orientationMatrices"], fn := fun _ => fun
  | [d1, d2, g1] => { results := [.lit (.bool false)], args := [d1, d2], vars := [g1] }
  | _ => none }
def FnExactComposeTransformsWrongFalsely : Prop := fnExactComposeTransformsRow.holds Tryd.pinned (OpenSpec.ofChange fnExactComposeTransformsWrong)

/-- 'laws.FnExactCellDepth': WHATEVER THE INPUT: true; the input reads as it did. -/
def fnExactCellDepthSpec : ChangeSpec := { name := "fnExactCellDepth", vars := ["loop.example/g00890/impl.chip"], fn := fun _ => fun
  | [d1, d2, g1] => { results := [.lit (.bool true)], args := [d1, d2], vars := [g1] }
  | _ => none }
def fnExactCellDepthRow : OpenClaim := { program := "ytciodcknobccdaadoor", sum := "ed40ffa871f043de9da957f02491f4b97634c6f5da0bea5939c25b7ce0f81018", func := "loop.example/g00890/laws.FnExactCellDepth", spec := "fnExactCellDepth", unfollowed := true, recurses := true, named := ["loop.example/g00890/impl.chip"], apart := false, laid := [("loop.example/g00890/impl.chip", laid_loop_example_g00890_impl_chip)] }
def FnExactCellDepthSaid : Prop := fnExactCellDepthRow.holds Tryd.pinned (OpenSpec.ofChange fnExactCellDepthSpec)

/-- ITS FALSE NEIGHBOUR: 'it returns false'. Refute it at one input. -/
def fnExactCellDepthWrong : ChangeSpec := { name := "fnExactCellDepth", vars := ["loop.example/g00890/impl.chip"], fn := fun _ => fun
  | [d1, d2, g1] => { results := [.lit (.bool false)], args := [d1, d2], vars := [g1] }
  | _ => none }
def FnExactCellDepthWrongFalsely : Prop := fnExactCellDepthRow.holds Tryd.pinned (OpenSpec.ofChange fnExactCellDepthWrong)

/-- 'laws.FnExactUsersOf': WHATEVER THE INPUT: true; the input reads as it did. -/
def fnExactUsersOfSpec : ChangeSpec := { name := "fnExactUsersOf", vars := ["loop.example/g00890/impl.chip"], fn := fun _ => fun
  | [d1, d2, g1] => { results := [.lit (.bool true)], args := [d1, d2], vars := [g1] }
  | _ => none }
def fnExactUsersOfRow : OpenClaim := { program := "ytciodcknobccdaadoor", sum := "ed40ffa871f043de9da957f02491f4b97634c6f5da0bea5939c25b7ce0f81018", func := "loop.example/g00890/laws.FnExactUsersOf", spec := "fnExactUsersOf", unfollowed := true, recurses := true, named := ["loop.example/g00890/impl.chip"], apart := false, laid := [("loop.example/g00890/impl.chip", laid_loop_example_g00890_impl_chip)] }
def FnExactUsersOfSaid : Prop := fnExactUsersOfRow.holds Tryd.pinned (OpenSpec.ofChange fnExactUsersOfSpec)

/-- ITS FALSE NEIGHBOUR: 'it returns false'. Refute it at one input. -/
def fnExactUsersOfWrong : ChangeSpec := { name := "fnExactUsersOf", vars := ["loop.example/g00890/impl.chip"], fn := fun _ => fun
  | [d1, d2, g1] => { results := [.lit (.bool false)], args := [d1, d2], vars := [g1] }
  | _ => none }
def FnExactUsersOfWrongFalsely : Prop := fnExactUsersOfRow.holds Tryd.pinned (OpenSpec.ofChange fnExactUsersOfWrong)

/-- 'laws.FnExactReachableCells': WHATEVER THE INPUT: true; the input reads as it did. -/
def fnExactReachableCellsSpec : ChangeSpec := { name := "fnExactReachableCells", vars := ["loop.example/g00890/impl.chip"], fn := fun _ => fun
  | [d1, d2, g1] => { results := [.lit (.bool true)], args := [d1, d2], vars := [g1] }
  | _ => none }
def fnExactReachableCellsRow : OpenClaim := { program := "ytciodcknobccdaadoor", sum := "ed40ffa871f043de9da957f02491f4b97634c6f5da0bea5939c25b7ce0f81018", func := "loop.example/g00890/laws.FnExactReachableCells", spec := "fnExactReachableCells", unfollowed := true, recurses := true, named := ["loop.example/g00890/impl.chip"], apart := false, laid := [("loop.example/g00890/impl.chip", laid_loop_example_g00890_impl_chip)] }
def FnExactReachableCellsSaid : Prop := fnExactReachableCellsRow.holds Tryd.pinned (OpenSpec.ofChange fnExactReachableCellsSpec)

/-- ITS FALSE NEIGHBOUR: 'it returns false'. Refute it at one input. -/
def fnExactReachableCellsWrong : ChangeSpec := { name := "fnExactReachableCells", vars := ["loop.example/g00890/impl.chip"], fn := fun _ => fun
  | [d1, d2, g1] => { results := [.lit (.bool false)], args := [d1, d2], vars := [g1] }
  | _ => none }
def FnExactReachableCellsWrongFalsely : Prop := fnExactReachableCellsRow.holds Tryd.pinned (OpenSpec.ofChange fnExactReachableCellsWrong)

/-- 'laws.FnExactElementCount': WHATEVER THE INPUT: true; the input reads as it did. -/
def fnExactElementCountSpec : ChangeSpec := { name := "fnExactElementCount", vars := ["loop.example/g00890/impl.chip"], fn := fun _ => fun
  | [d1, d2, g1] => { results := [.lit (.bool true)], args := [d1, d2], vars := [g1] }
  | _ => none }
def fnExactElementCountRow : OpenClaim := { program := "ytciodcknobccdaadoor", sum := "ed40ffa871f043de9da957f02491f4b97634c6f5da0bea5939c25b7ce0f81018", func := "loop.example/g00890/laws.FnExactElementCount", spec := "fnExactElementCount", unfollowed := true, recurses := true, named := ["loop.example/g00890/impl.chip"], apart := false, laid := [("loop.example/g00890/impl.chip", laid_loop_example_g00890_impl_chip)] }
def FnExactElementCountSaid : Prop := fnExactElementCountRow.holds Tryd.pinned (OpenSpec.ofChange fnExactElementCountSpec)

/-- ITS FALSE NEIGHBOUR: 'it returns false'. Refute it at one input. -/
def fnExactElementCountWrong : ChangeSpec := { name := "fnExactElementCount", vars := ["loop.example/g00890/impl.chip"], fn := fun _ => fun
  | [d1, d2, g1] => { results := [.lit (.bool false)], args := [d1, d2], vars := [g1] }
  | _ => none }
def FnExactElementCountWrongFalsely : Prop := fnExactElementCountRow.holds Tryd.pinned (OpenSpec.ofChange fnExactElementCountWrong)

/-- 'laws.FnExactIsLayout': WHATEVER THE INPUT: true; the input reads as it did. -/
def fnExactIsLayoutSpec : ChangeSpec := { name := "fnExactIsLayout", vars := ["loop.example/g00890/impl.chip"], fn := fun _ => fun
  | [d, g1] => { results := [.lit (.bool true)], args := [d], vars := [g1] }
  | _ => none }
def fnExactIsLayoutRow : OpenClaim := { program := "ytciodcknobccdaadoor", sum := "ed40ffa871f043de9da957f02491f4b97634c6f5da0bea5939c25b7ce0f81018", func := "loop.example/g00890/laws.FnExactIsLayout", spec := "fnExactIsLayout", unfollowed := true, recurses := true, named := ["loop.example/g00890/impl.chip", "math/bits.deBruijn64tab"], apart := false, laid := [("math/bits.deBruijn64tab", laid_math_bits_deBruijn64tab), ("loop.example/g00890/impl.chip", laid_loop_example_g00890_impl_chip)] }
def FnExactIsLayoutSaid : Prop := fnExactIsLayoutRow.holds Tryd.pinned (OpenSpec.ofChange fnExactIsLayoutSpec)

/-- ITS FALSE NEIGHBOUR: 'it returns false'. Refute it at one input. -/
def fnExactIsLayoutWrong : ChangeSpec := { name := "fnExactIsLayout", vars := ["loop.example/g00890/impl.chip"], fn := fun _ => fun
  | [d, g1] => { results := [.lit (.bool false)], args := [d], vars := [g1] }
  | _ => none }
def FnExactIsLayoutWrongFalsely : Prop := fnExactIsLayoutRow.holds Tryd.pinned (OpenSpec.ofChange fnExactIsLayoutWrong)

/- THE SECOND FORM. 'bulk': how many values and letters a reading holds, each counted each time it is reached (what is shared counts as often as it is met; a slice's spare places count too). A statement '..UptoSaid' is the law's where the arguments, and the package variables that the reading takes, are together of bulk at most 1048576: NARROWER than '..Said'. Prove '..Said' where nothing that the law and all that it calls make is longer than what came in: it says more and counts as full. Else prove '..UptoSaid'. A law counts once. -/
mutual
def uptoBulk {H : Type} : DataW H → Nat
  | .lit (.string bytes) => bytes.length + 1
  | .lit _ => 1
  | .nil => 1
  | .ptr d => uptoBulk d + 1
  | .slice elems spare => uptoBulkAll elems + uptoBulkAll spare + 1
  | .agg parts => uptoBulkAll parts + 1
  | .iface _ d => uptoBulk d + 1
  | .map entries => uptoBulkEntries entries + 1
  | .held _ => 1
def uptoBulkAll {H : Type} : List (DataW H) → Nat
  | [] => 0
  | d :: r => uptoBulk d + uptoBulkAll r
def uptoBulkEntries {H : Type} : List (Lit × DataW H) → Nat
  | [] => 0
  | x :: r => uptoBulkEntry x + uptoBulkEntries r
def uptoBulkEntry {H : Type} : Lit × DataW H → Nat
  | (.string bytes, d) => bytes.length + uptoBulk d + 1
  | (_, d) => uptoBulk d + 1
 end
def uptoSmall : (H : Type) → List (DataW H) → Bool := fun _ ds => decide (uptoBulkAll ds ≤ 1048576)
def OpenSpec.upto (s : _root_.Go.ChangeSpec) : _root_.Go.OpenSpec := { _root_.Go.OpenSpec.ofChange s with cond := some uptoSmall }

/-- 'laws.FnHierarchyOrder', WHERE WHAT IT READS IS OF BULK AT MOST 1048576: true; the input reads as it did. -/
def fnHierarchyOrderUptoRow : OpenClaim := { program := "ytciodcknobccdaadoor", sum := "ed40ffa871f043de9da957f02491f4b97634c6f5da0bea5939c25b7ce0f81018", func := "loop.example/g00890/laws.FnHierarchyOrder", spec := "fnHierarchyOrder", unfollowed := true, recurses := true, named := ["loop.example/g00890/impl.chip"], apart := false, laid := [("loop.example/g00890/impl.chip", laid_loop_example_g00890_impl_chip)], narrowed := true }
def FnHierarchyOrderUptoSaid : Prop := fnHierarchyOrderUptoRow.holds Tryd.pinned (OpenSpec.upto fnHierarchyOrderSpec)

/-- 'laws.FnTransforms', WHERE WHAT IT READS IS OF BULK AT MOST 1048576: true; the input reads as it did. -/
def fnTransformsUptoRow : OpenClaim := { program := "ytciodcknobccdaadoor", sum := "ed40ffa871f043de9da957f02491f4b97634c6f5da0bea5939c25b7ce0f81018", func := "loop.example/g00890/laws.FnTransforms", spec := "fnTransforms", named := ["loop.example/g00890/impl.orientationMatrices"], apart := false, laid := [("loop.example/g00890/impl.orientationMatrices", laid_loop_example_g00890_impl_orientationMatrices)], narrowed := true }
def FnTransformsUptoSaid : Prop := fnTransformsUptoRow.holds Tryd.pinned (OpenSpec.upto fnTransformsSpec)

/-- 'laws.FnExactComposeTransforms', WHERE WHAT IT READS IS OF BULK AT MOST 1048576: true; the input reads as it did. -/
def fnExactComposeTransformsUptoRow : OpenClaim := { program := "ytciodcknobccdaadoor", sum := "ed40ffa871f043de9da957f02491f4b97634c6f5da0bea5939c25b7ce0f81018", func := "loop.example/g00890/laws.FnExactComposeTransforms", spec := "fnExactComposeTransforms", named := ["loop.example/g00890/impl.orientationMatrices"], apart := false, laid := [("loop.example/g00890/impl.orientationMatrices", laid_loop_example_g00890_impl_orientationMatrices)], narrowed := true }
def FnExactComposeTransformsUptoSaid : Prop := fnExactComposeTransformsUptoRow.holds Tryd.pinned (OpenSpec.upto fnExactComposeTransformsSpec)

/-- 'laws.FnExactCellDepth', WHERE WHAT IT READS IS OF BULK AT MOST 1048576: true; the input reads as it did. -/
def fnExactCellDepthUptoRow : OpenClaim := { program := "ytciodcknobccdaadoor", sum := "ed40ffa871f043de9da957f02491f4b97634c6f5da0bea5939c25b7ce0f81018", func := "loop.example/g00890/laws.FnExactCellDepth", spec := "fnExactCellDepth", unfollowed := true, recurses := true, named := ["loop.example/g00890/impl.chip"], apart := false, laid := [("loop.example/g00890/impl.chip", laid_loop_example_g00890_impl_chip)], narrowed := true }
def FnExactCellDepthUptoSaid : Prop := fnExactCellDepthUptoRow.holds Tryd.pinned (OpenSpec.upto fnExactCellDepthSpec)

/-- 'laws.FnExactUsersOf', WHERE WHAT IT READS IS OF BULK AT MOST 1048576: true; the input reads as it did. -/
def fnExactUsersOfUptoRow : OpenClaim := { program := "ytciodcknobccdaadoor", sum := "ed40ffa871f043de9da957f02491f4b97634c6f5da0bea5939c25b7ce0f81018", func := "loop.example/g00890/laws.FnExactUsersOf", spec := "fnExactUsersOf", unfollowed := true, recurses := true, named := ["loop.example/g00890/impl.chip"], apart := false, laid := [("loop.example/g00890/impl.chip", laid_loop_example_g00890_impl_chip)], narrowed := true }
def FnExactUsersOfUptoSaid : Prop := fnExactUsersOfUptoRow.holds Tryd.pinned (OpenSpec.upto fnExactUsersOfSpec)

/-- 'laws.FnExactReachableCells', WHERE WHAT IT READS IS OF BULK AT MOST 1048576: true; the input reads as it did. -/
def fnExactReachableCellsUptoRow : OpenClaim := { program := "ytciodcknobccdaadoor", sum := "ed40ffa871f043de9da957f02491f4b97634c6f5da0bea5939c25b7ce0f81018", func := "loop.example/g00890/laws.FnExactReachableCells", spec := "fnExactReachableCells", unfollowed := true, recurses := true, named := ["loop.example/g00890/impl.chip"], apart := false, laid := [("loop.example/g00890/impl.chip", laid_loop_example_g00890_impl_chip)], narrowed := true }
def FnExactReachableCellsUptoSaid : Prop := fnExactReachableCellsUptoRow.holds Tryd.pinned (OpenSpec.upto fnExactReachableCellsSpec)

/-- 'laws.FnExactElementCount', WHERE WHAT IT READS IS OF BULK AT MOST 1048576: true; the input reads as it did. -/
def fnExactElementCountUptoRow : OpenClaim := { program := "ytciodcknobccdaadoor", sum := "ed40ffa871f043de9da957f02491f4b97634c6f5da0bea5939c25b7ce0f81018", func := "loop.example/g00890/laws.FnExactElementCount", spec := "fnExactElementCount", unfollowed := true, recurses := true, named := ["loop.example/g00890/impl.chip"], apart := false, laid := [("loop.example/g00890/impl.chip", laid_loop_example_g00890_impl_chip)], narrowed := true }
def FnExactElementCountUptoSaid : Prop := fnExactElementCountUptoRow.holds Tryd.pinned (OpenSpec.upto fnExactElementCountSpec)

/-- 'laws.FnExactIsLayout', WHERE WHAT IT READS IS OF BULK AT MOST 1048576: true; the input reads as it did. -/
def fnExactIsLayoutUptoRow : OpenClaim := { program := "ytciodcknobccdaadoor", sum := "ed40ffa871f043de9da957f02491f4b97634c6f5da0bea5939c25b7ce0f81018", func := "loop.example/g00890/laws.FnExactIsLayout", spec := "fnExactIsLayout", unfollowed := true, recurses := true, named := ["loop.example/g00890/impl.chip", "math/bits.deBruijn64tab"], apart := false, laid := [("math/bits.deBruijn64tab", laid_math_bits_deBruijn64tab), ("loop.example/g00890/impl.chip", laid_loop_example_g00890_impl_chip)], narrowed := true }
def FnExactIsLayoutUptoSaid : Prop := fnExactIsLayoutUptoRow.holds Tryd.pinned (OpenSpec.upto fnExactIsLayoutSpec)

end Rows
end Go.Proofs.YtciodcknobccdaaDoor
