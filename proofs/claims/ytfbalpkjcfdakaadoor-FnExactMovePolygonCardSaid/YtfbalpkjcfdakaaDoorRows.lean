/-
  NARROWER THAN 'FOR EVERY INPUT', by the rows' own cells (each row's printed sentence says how): FnExactMovePolygon: laid · FnExactPolygonContains: laid · FnExactPolygonRegion: laid · FnPolygonMove: laid · FnExactCornerCounts: laid · FnHoles: laid · FnEuler: laid.
  DERIVED. THE GIVEN ROWS OF THIS SEAT. 7 by the template 'for every input the law returns true; each argument reads behind the call as it read before'; 0 by the template 'total and deterministic' (their statements: YtfbalpkjcfdakaaDoorTotals.lean).
  GIVEN WITH THE SEED: the statements are not yours to turn. If you find one false, say at which input.
  Laid BY PROGRAM, IN A SANDBOX (cutbox-rows.mjs): the forced cells as the released guide's own fill.sh prints them over the translation 0ed0303dc30c4575… (all of the seat's roots in one cut). By AI agents, Wed Nov 11 2026. No macro, syntax, notation, axiom, sorry.
-/
import Derived.Test.YtfbalpkjcfdakaaDoorChecked
import GoSem.Claim
import GoSem.ClaimJoined
import GoSem.ClaimMapViews
import Derived.JoinedTies
import Derived.KernelRfl
namespace Go.Proofs.YtfbalpkjcfdakaaDoor
/- THE CELL 'sum', in the pinned program and in every row, IS THE sha256 OF THE DUMP (.gsa) THAT YtfbalpkjcfdakaaDoorProg.lean LOADS. Nothing in Lean hashes anything: it is a label: what it is worth is what the hold of that sum in a sandbox is worth. -/
noncomputable def Tryd.pinned : Pinned := { name := "ytfbalpkjcfdakaadoor", sum := "0ed0303dc30c45756ce5dce5c991cd83aa15fdb23bbb41961ae7742f24c41a5a", checked := Tryd.checked }
namespace Rows
def none {H : Type} : Left H := { results := [], args := [] }

/- WHAT THE LISTED PACKAGE-LEVEL VARIABLES READ AS WHEN THE CALL BEGINS. Each datum BY PROGRAM (the guide's laid-datum.mjs) off the statement by which the dump's own 'gosem.cut.vars' lays the variable. In a bare row this is a premise. The card (YtfbalpkjcfdakaaDoorCards.lean) ties it to the program's text. -/
def laid_loop_example_g00890_impl_orientationMatrices {H : Type} : DataW H := .agg [.agg [.lit (.int .i64 1), .lit (.int .i64 0), .lit (.int .i64 0), .lit (.int .i64 1)], .agg [.lit (.int .i64 0), .lit (.int .i64 (-1)), .lit (.int .i64 1), .lit (.int .i64 0)], .agg [.lit (.int .i64 (-1)), .lit (.int .i64 0), .lit (.int .i64 0), .lit (.int .i64 (-1))], .agg [.lit (.int .i64 0), .lit (.int .i64 1), .lit (.int .i64 (-1)), .lit (.int .i64 0)], .agg [.lit (.int .i64 1), .lit (.int .i64 0), .lit (.int .i64 0), .lit (.int .i64 (-1))], .agg [.lit (.int .i64 0), .lit (.int .i64 1), .lit (.int .i64 1), .lit (.int .i64 0)], .agg [.lit (.int .i64 (-1)), .lit (.int .i64 0), .lit (.int .i64 0), .lit (.int .i64 1)], .agg [.lit (.int .i64 0), .lit (.int .i64 (-1)), .lit (.int .i64 (-1)), .lit (.int .i64 0)]]
def laid_math_bits_deBruijn64tab {H : Type} : DataW H := .agg [.lit (.int .u8 0), .lit (.int .u8 1), .lit (.int .u8 56), .lit (.int .u8 2), .lit (.int .u8 57), .lit (.int .u8 49), .lit (.int .u8 28), .lit (.int .u8 3), .lit (.int .u8 61), .lit (.int .u8 58), .lit (.int .u8 42), .lit (.int .u8 50), .lit (.int .u8 38), .lit (.int .u8 29), .lit (.int .u8 17), .lit (.int .u8 4), .lit (.int .u8 62), .lit (.int .u8 47), .lit (.int .u8 59), .lit (.int .u8 36), .lit (.int .u8 45), .lit (.int .u8 43), .lit (.int .u8 51), .lit (.int .u8 22), .lit (.int .u8 53), .lit (.int .u8 39), .lit (.int .u8 33), .lit (.int .u8 30), .lit (.int .u8 24), .lit (.int .u8 18), .lit (.int .u8 12), .lit (.int .u8 5), .lit (.int .u8 63), .lit (.int .u8 55), .lit (.int .u8 48), .lit (.int .u8 27), .lit (.int .u8 60), .lit (.int .u8 41), .lit (.int .u8 37), .lit (.int .u8 16), .lit (.int .u8 46), .lit (.int .u8 35), .lit (.int .u8 44), .lit (.int .u8 21), .lit (.int .u8 52), .lit (.int .u8 32), .lit (.int .u8 23), .lit (.int .u8 11), .lit (.int .u8 54), .lit (.int .u8 26), .lit (.int .u8 40), .lit (.int .u8 15), .lit (.int .u8 34), .lit (.int .u8 20), .lit (.int .u8 31), .lit (.int .u8 10), .lit (.int .u8 25), .lit (.int .u8 14), .lit (.int .u8 19), .lit (.int .u8 9), .lit (.int .u8 13), .lit (.int .u8 8), .lit (.int .u8 7), .lit (.int .u8 6)]
def laid_loop_example_g00890_impl_chip {H : Type} : DataW H := .agg [.lit (.int .i64 (-40)), .lit (.int .i64 (-40)), .lit (.int .i64 40), .lit (.int .i64 40)]

/-- 'laws.FnExactMovePolygon': WHATEVER THE INPUT: true; the input reads as it did. -/
def fnExactMovePolygonSpec : ChangeSpec := { name := "fnExactMovePolygon", vars := ["loop.example/g00890/impl.orientationMatrices"], fn := fun _ => fun
  | [d1, d2, g1] => { results := [.lit (.bool true)], args := [d1, d2], vars := [g1] }
  | _ => none }
def fnExactMovePolygonRow : OpenClaim := { program := "ytfbalpkjcfdakaadoor", sum := "0ed0303dc30c45756ce5dce5c991cd83aa15fdb23bbb41961ae7742f24c41a5a", func := "loop.example/g00890/laws.FnExactMovePolygon", spec := "fnExactMovePolygon", named := ["loop.example/g00890/impl.orientationMatrices"], apart := false, laid := [("loop.example/g00890/impl.orientationMatrices", laid_loop_example_g00890_impl_orientationMatrices)] }
def FnExactMovePolygonSaid : Prop := fnExactMovePolygonRow.holds Tryd.pinned (OpenSpec.ofChange fnExactMovePolygonSpec)

/-- ITS FALSE NEIGHBOUR: 'it returns false'. Refute it at one input. -/
def fnExactMovePolygonWrong : ChangeSpec := { name := "fnExactMovePolygon", vars := ["loop.example/g00890/impl.orientationMatrices"], fn := fun _ => fun
  | [d1, d2, g1] => { results := [.lit (.bool false)], args := [d1, d2], vars := [g1] }
  | _ => none }
def FnExactMovePolygonWrongFalsely : Prop := fnExactMovePolygonRow.holds Tryd.pinned (OpenSpec.ofChange fnExactMovePolygonWrong)

/-- 'laws.FnExactPolygonContains': WHATEVER THE INPUT: true; the input reads as it did. -/
def fnExactPolygonContainsSpec : ChangeSpec := { name := "fnExactPolygonContains", vars := ["loop.example/g00890/impl.chip"], fn := fun _ => fun
  | [d1, d2, d3, g1] => { results := [.lit (.bool true)], args := [d1, d2, d3], vars := [g1] }
  | _ => none }
def fnExactPolygonContainsRow : OpenClaim := { program := "ytfbalpkjcfdakaadoor", sum := "0ed0303dc30c45756ce5dce5c991cd83aa15fdb23bbb41961ae7742f24c41a5a", func := "loop.example/g00890/laws.FnExactPolygonContains", spec := "fnExactPolygonContains", unfollowed := true, recurses := true, named := ["math/bits.deBruijn64tab", "loop.example/g00890/impl.chip"], apart := false, laid := [("math/bits.deBruijn64tab", laid_math_bits_deBruijn64tab), ("loop.example/g00890/impl.chip", laid_loop_example_g00890_impl_chip)] }
def FnExactPolygonContainsSaid : Prop := fnExactPolygonContainsRow.holds Tryd.pinned (OpenSpec.ofChange fnExactPolygonContainsSpec)

/-- ITS FALSE NEIGHBOUR: 'it returns false'. Refute it at one input. -/
def fnExactPolygonContainsWrong : ChangeSpec := { name := "fnExactPolygonContains", vars := ["loop.example/g00890/impl.chip"], fn := fun _ => fun
  | [d1, d2, d3, g1] => { results := [.lit (.bool false)], args := [d1, d2, d3], vars := [g1] }
  | _ => none }
def FnExactPolygonContainsWrongFalsely : Prop := fnExactPolygonContainsRow.holds Tryd.pinned (OpenSpec.ofChange fnExactPolygonContainsWrong)

/-- 'laws.FnExactPolygonRegion': WHATEVER THE INPUT: true; the input reads as it did. -/
def fnExactPolygonRegionSpec : ChangeSpec := { name := "fnExactPolygonRegion", fn := fun _ => fun
  | [d] => { results := [.lit (.bool true)], args := [d] }
  | _ => none }
def fnExactPolygonRegionRow : OpenClaim := { program := "ytfbalpkjcfdakaadoor", sum := "0ed0303dc30c45756ce5dce5c991cd83aa15fdb23bbb41961ae7742f24c41a5a", func := "loop.example/g00890/laws.FnExactPolygonRegion", spec := "fnExactPolygonRegion", unfollowed := true, recurses := true, named := ["math/bits.deBruijn64tab"], apart := false, laid := [("math/bits.deBruijn64tab", laid_math_bits_deBruijn64tab)] }
def FnExactPolygonRegionSaid : Prop := fnExactPolygonRegionRow.holds Tryd.pinned (OpenSpec.ofChange fnExactPolygonRegionSpec)

/-- ITS FALSE NEIGHBOUR: 'it returns false'. Refute it at one input. -/
def fnExactPolygonRegionWrong : ChangeSpec := { name := "fnExactPolygonRegion", fn := fun _ => fun
  | [d] => { results := [.lit (.bool false)], args := [d] }
  | _ => none }
def FnExactPolygonRegionWrongFalsely : Prop := fnExactPolygonRegionRow.holds Tryd.pinned (OpenSpec.ofChange fnExactPolygonRegionWrong)

/-- 'laws.FnPolygonMove': WHATEVER THE INPUT: true; the input reads as it did. -/
def fnPolygonMoveSpec : ChangeSpec := { name := "fnPolygonMove", vars := ["loop.example/g00890/impl.orientationMatrices", "loop.example/g00890/impl.chip"], fn := fun _ => fun
  | [d, g1, g2] => { results := [.lit (.bool true)], args := [d], vars := [g1, g2] }
  | _ => none }
def fnPolygonMoveRow : OpenClaim := { program := "ytfbalpkjcfdakaadoor", sum := "0ed0303dc30c45756ce5dce5c991cd83aa15fdb23bbb41961ae7742f24c41a5a", func := "loop.example/g00890/laws.FnPolygonMove", spec := "fnPolygonMove", unfollowed := true, recurses := true, named := ["loop.example/g00890/impl.orientationMatrices", "math/bits.deBruijn64tab", "loop.example/g00890/impl.chip"], apart := false, laid := [("math/bits.deBruijn64tab", laid_math_bits_deBruijn64tab), ("loop.example/g00890/impl.orientationMatrices", laid_loop_example_g00890_impl_orientationMatrices), ("loop.example/g00890/impl.chip", laid_loop_example_g00890_impl_chip)] }
def FnPolygonMoveSaid : Prop := fnPolygonMoveRow.holds Tryd.pinned (OpenSpec.ofChange fnPolygonMoveSpec)

/-- ITS FALSE NEIGHBOUR: 'it returns false'. Refute it at one input. -/
def fnPolygonMoveWrong : ChangeSpec := { name := "fnPolygonMove", vars := ["loop.example/g00890/impl.orientationMatrices", "loop.example/g00890/impl.chip"], fn := fun _ => fun
  | [d, g1, g2] => { results := [.lit (.bool false)], args := [d], vars := [g1, g2] }
  | _ => none }
def FnPolygonMoveWrongFalsely : Prop := fnPolygonMoveRow.holds Tryd.pinned (OpenSpec.ofChange fnPolygonMoveWrong)

/-- 'laws.FnExactCornerCounts': WHATEVER THE INPUT: true; the input reads as it did. -/
def fnExactCornerCountsSpec : ChangeSpec := { name := "fnExactCornerCounts", vars := ["loop.example/g00890/impl.chip"], fn := fun _ => fun
  | [d, g1] => { results := [.lit (.bool true)], args := [d], vars := [g1] }
  | _ => none }
def fnExactCornerCountsRow : OpenClaim := { program := "ytfbalpkjcfdakaadoor", sum := "0ed0303dc30c45756ce5dce5c991cd83aa15fdb23bbb41961ae7742f24c41a5a", func := "loop.example/g00890/laws.FnExactCornerCounts", spec := "fnExactCornerCounts", unfollowed := true, recurses := true, named := ["loop.example/g00890/impl.chip", "math/bits.deBruijn64tab"], apart := false, laid := [("math/bits.deBruijn64tab", laid_math_bits_deBruijn64tab), ("loop.example/g00890/impl.chip", laid_loop_example_g00890_impl_chip)] }
def FnExactCornerCountsSaid : Prop := fnExactCornerCountsRow.holds Tryd.pinned (OpenSpec.ofChange fnExactCornerCountsSpec)

/-- ITS FALSE NEIGHBOUR: 'it returns false'. Refute it at one input. -/
def fnExactCornerCountsWrong : ChangeSpec := { name := "fnExactCornerCounts", vars := ["loop.example/g00890/impl.chip"], fn := fun _ => fun
  | [d, g1] => { results := [.lit (.bool false)], args := [d], vars := [g1] }
  | _ => none }
def FnExactCornerCountsWrongFalsely : Prop := fnExactCornerCountsRow.holds Tryd.pinned (OpenSpec.ofChange fnExactCornerCountsWrong)

/-- 'laws.FnHoles': WHATEVER THE INPUT: true; the input reads as it did. -/
def fnHolesSpec : ChangeSpec := { name := "fnHoles", vars := ["loop.example/g00890/impl.chip"], fn := fun _ => fun
  | [d, g1] => { results := [.lit (.bool true)], args := [d], vars := [g1] }
  | _ => none }
def fnHolesRow : OpenClaim := { program := "ytfbalpkjcfdakaadoor", sum := "0ed0303dc30c45756ce5dce5c991cd83aa15fdb23bbb41961ae7742f24c41a5a", func := "loop.example/g00890/laws.FnHoles", spec := "fnHoles", unfollowed := true, recurses := true, named := ["loop.example/g00890/impl.chip", "math/bits.deBruijn64tab"], apart := false, laid := [("math/bits.deBruijn64tab", laid_math_bits_deBruijn64tab), ("loop.example/g00890/impl.chip", laid_loop_example_g00890_impl_chip)] }
def FnHolesSaid : Prop := fnHolesRow.holds Tryd.pinned (OpenSpec.ofChange fnHolesSpec)

/-- ITS FALSE NEIGHBOUR: 'it returns false'. Refute it at one input. -/
def fnHolesWrong : ChangeSpec := { name := "fnHoles", vars := ["loop.example/g00890/impl.chip"], fn := fun _ => fun
  | [d, g1] => { results := [.lit (.bool false)], args := [d], vars := [g1] }
  | _ => none }
def FnHolesWrongFalsely : Prop := fnHolesRow.holds Tryd.pinned (OpenSpec.ofChange fnHolesWrong)

/-- 'laws.FnEuler': WHATEVER THE INPUT: true; the input reads as it did. -/
def fnEulerSpec : ChangeSpec := { name := "fnEuler", vars := ["loop.example/g00890/impl.chip"], fn := fun _ => fun
  | [d, g1] => { results := [.lit (.bool true)], args := [d], vars := [g1] }
  | _ => none }
def fnEulerRow : OpenClaim := { program := "ytfbalpkjcfdakaadoor", sum := "0ed0303dc30c45756ce5dce5c991cd83aa15fdb23bbb41961ae7742f24c41a5a", func := "loop.example/g00890/laws.FnEuler", spec := "fnEuler", unfollowed := true, recurses := true, named := ["loop.example/g00890/impl.chip", "math/bits.deBruijn64tab"], apart := false, laid := [("math/bits.deBruijn64tab", laid_math_bits_deBruijn64tab), ("loop.example/g00890/impl.chip", laid_loop_example_g00890_impl_chip)] }
def FnEulerSaid : Prop := fnEulerRow.holds Tryd.pinned (OpenSpec.ofChange fnEulerSpec)

/-- ITS FALSE NEIGHBOUR: 'it returns false'. Refute it at one input. -/
def fnEulerWrong : ChangeSpec := { name := "fnEuler", vars := ["loop.example/g00890/impl.chip"], fn := fun _ => fun
  | [d, g1] => { results := [.lit (.bool false)], args := [d], vars := [g1] }
  | _ => none }
def FnEulerWrongFalsely : Prop := fnEulerRow.holds Tryd.pinned (OpenSpec.ofChange fnEulerWrong)

/- THE SECOND FORM. 'bulk': how many values and letters a reading holds, each counted each time it is reached (what is shared counts as often as it is met; a slice's spare places count too). A statement '..UptoSaid' is the law's where the arguments, and the package variables that the reading takes, are together of bulk at most 1048576: NARROWER than '..Said'. Prove '..Said' where nothing that the law and all that it calls make is longer than what came in: it says more and counts as full. Else prove '..UptoSaid'. A law counts once. -/
mutual
def uptoBulk {H : Type} : DataW H → Nat
  | .lit (.string bytes) => bytes.length + 1
  | .lit _ => 1
  | .nil => 1
  | .ptr d => uptoBulk d + 1
  | .slice elems spare => uptoBulkAll elems + uptoBulkAll spare + 1
  | .agg parts => uptoBulkAll parts + 1
  | .iface _ d => uptoBulk d + 1
  | .map entries => uptoBulkEntries entries + 1
  | .held _ => 1
def uptoBulkAll {H : Type} : List (DataW H) → Nat
  | [] => 0
  | d :: r => uptoBulk d + uptoBulkAll r
def uptoBulkEntries {H : Type} : List (Lit × DataW H) → Nat
  | [] => 0
  | x :: r => uptoBulkEntry x + uptoBulkEntries r
def uptoBulkEntry {H : Type} : Lit × DataW H → Nat
  | (.string bytes, d) => bytes.length + uptoBulk d + 1
  | (_, d) => uptoBulk d + 1
 end
def uptoSmall : (H : Type) → List (DataW H) → Bool := fun _ ds => decide (uptoBulkAll ds ≤ 1048576)
def OpenSpec.upto (s : _root_.Go.ChangeSpec) : _root_.Go.OpenSpec := { _root_.Go.OpenSpec.ofChange s with cond := some uptoSmall }

/-- 'laws.FnExactMovePolygon', WHERE WHAT IT READS IS OF BULK AT MOST 1048576: true; the input reads as it did. -/
def fnExactMovePolygonUptoRow : OpenClaim := { program := "ytfbalpkjcfdakaadoor", sum := "0ed0303dc30c45756ce5dce5c991cd83aa15fdb23bbb41961ae7742f24c41a5a", func := "loop.example/g00890/laws.FnExactMovePolygon", spec := "fnExactMovePolygon", named := ["loop.example/g00890/impl.orientationMatrices"], apart := false, laid := [("loop.example/g00890/impl.orientationMatrices", laid_loop_example_g00890_impl_orientationMatrices)], narrowed := true }
def FnExactMovePolygonUptoSaid : Prop := fnExactMovePolygonUptoRow.holds Tryd.pinned (OpenSpec.upto fnExactMovePolygonSpec)

/-- 'laws.FnExactPolygonContains', WHERE WHAT IT READS IS OF BULK AT MOST 1048576: true; the input reads as it did. -/
def fnExactPolygonContainsUptoRow : OpenClaim := { program := "ytfbalpkjcfdakaadoor", sum := "0ed0303dc30c45756ce5dce5c991cd83aa15fdb23bbb41961ae7742f24c41a5a", func := "loop.example/g00890/laws.FnExactPolygonContains", spec := "fnExactPolygonContains", unfollowed := true, recurses := true, named := ["math/bits.deBruijn64tab", "loop.example/g00890/impl.chip"], apart := false, laid := [("math/bits.deBruijn64tab", laid_math_bits_deBruijn64tab), ("loop.example/g00890/impl.chip", laid_loop_example_g00890_impl_chip)], narrowed := true }
def FnExactPolygonContainsUptoSaid : Prop := fnExactPolygonContainsUptoRow.holds Tryd.pinned (OpenSpec.upto fnExactPolygonContainsSpec)

/-- 'laws.FnExactPolygonRegion', WHERE WHAT IT READS IS OF BULK AT MOST 1048576: true; the input reads as it did. -/
def fnExactPolygonRegionUptoRow : OpenClaim := { program := "ytfbalpkjcfdakaadoor", sum := "0ed0303dc30c45756ce5dce5c991cd83aa15fdb23bbb41961ae7742f24c41a5a", func := "loop.example/g00890/laws.FnExactPolygonRegion", spec := "fnExactPolygonRegion", unfollowed := true, recurses := true, named := ["math/bits.deBruijn64tab"], apart := false, laid := [("math/bits.deBruijn64tab", laid_math_bits_deBruijn64tab)], narrowed := true }
def FnExactPolygonRegionUptoSaid : Prop := fnExactPolygonRegionUptoRow.holds Tryd.pinned (OpenSpec.upto fnExactPolygonRegionSpec)

/-- 'laws.FnPolygonMove', WHERE WHAT IT READS IS OF BULK AT MOST 1048576: true; the input reads as it did. -/
def fnPolygonMoveUptoRow : OpenClaim := { program := "ytfbalpkjcfdakaadoor", sum := "0ed0303dc30c45756ce5dce5c991cd83aa15fdb23bbb41961ae7742f24c41a5a", func := "loop.example/g00890/laws.FnPolygonMove", spec := "fnPolygonMove", unfollowed := true, recurses := true, named := ["loop.example/g00890/impl.orientationMatrices", "math/bits.deBruijn64tab", "loop.example/g00890/impl.chip"], apart := false, laid := [("math/bits.deBruijn64tab", laid_math_bits_deBruijn64tab), ("loop.example/g00890/impl.orientationMatrices", laid_loop_example_g00890_impl_orientationMatrices), ("loop.example/g00890/impl.chip", laid_loop_example_g00890_impl_chip)], narrowed := true }
def FnPolygonMoveUptoSaid : Prop := fnPolygonMoveUptoRow.holds Tryd.pinned (OpenSpec.upto fnPolygonMoveSpec)

/-- 'laws.FnExactCornerCounts', WHERE WHAT IT READS IS OF BULK AT MOST 1048576: true; the input reads as it did. -/
def fnExactCornerCountsUptoRow : OpenClaim := { program := "ytfbalpkjcfdakaadoor", sum := "0ed0303dc30c45756ce5dce5c991cd83aa15fdb23bbb41961ae7742f24c41a5a", func := "loop.example/g00890/laws.FnExactCornerCounts", spec := "fnExactCornerCounts", unfollowed := true, recurses := true, named := ["loop.example/g00890/impl.chip", "math/bits.deBruijn64tab"], apart := false, laid := [("math/bits.deBruijn64tab", laid_math_bits_deBruijn64tab), ("loop.example/g00890/impl.chip", laid_loop_example_g00890_impl_chip)], narrowed := true }
def FnExactCornerCountsUptoSaid : Prop := fnExactCornerCountsUptoRow.holds Tryd.pinned (OpenSpec.upto fnExactCornerCountsSpec)

/-- 'laws.FnHoles', WHERE WHAT IT READS IS OF BULK AT MOST 1048576: true; the input reads as it did. -/
def fnHolesUptoRow : OpenClaim := { program := "ytfbalpkjcfdakaadoor", sum := "0ed0303dc30c45756ce5dce5c991cd83aa15fdb23bbb41961ae7742f24c41a5a", func := "loop.example/g00890/laws.FnHoles", spec := "fnHoles", unfollowed := true, recurses := true, named := ["loop.example/g00890/impl.chip", "math/bits.deBruijn64tab"], apart := false, laid := [("math/bits.deBruijn64tab", laid_math_bits_deBruijn64tab), ("loop.example/g00890/impl.chip", laid_loop_example_g00890_impl_chip)], narrowed := true }
def FnHolesUptoSaid : Prop := fnHolesUptoRow.holds Tryd.pinned (OpenSpec.upto fnHolesSpec)

/-- 'laws.FnEuler', WHERE WHAT IT READS IS OF BULK AT MOST 1048576: true; the input reads as it did. -/
def fnEulerUptoRow : OpenClaim := { program := "ytfbalpkjcfdakaadoor", sum := "0ed0303dc30c45756ce5dce5c991cd83aa15fdb23bbb41961ae7742f24c41a5a", func := "loop.example/g00890/laws.FnEuler", spec := "fnEuler", unfollowed := true, recurses := true, named := ["loop.example/g00890/impl.chip", "math/bits.deBruijn64tab"], apart := false, laid := [("math/bits.deBruijn64tab", laid_math_bits_deBruijn64tab), ("loop.example/g00890/impl.chip", laid_loop_example_g00890_impl_chip)], narrowed := true }
def FnEulerUptoSaid : Prop := fnEulerUptoRow.holds Tryd.pinned (OpenSpec.upto fnEulerSpec)

end Rows
end Go.Proofs.YtfbalpkjcfdakaaDoor
