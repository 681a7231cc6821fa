/-
  NARROWER THAN 'FOR EVERY INPUT', by the rows' own cells (each row's printed sentence says how): FnExactRegionPolygons: laid · FnPolygons: laid · FnExactRegionFromEdges: laid · FnEdges: laid · FnExactFacingEdges: laid.
  DERIVED. THE GIVEN ROWS OF THIS SEAT. 5 by the template 'for every input the law returns true; each argument reads behind the call as it read before'; 0 by the template 'total and deterministic' (their statements: YtfbalpkjcfdakaaGreatDoorTotals.lean).
  GIVEN WITH THE SEED: the statements are not yours to turn. If you find one false, say at which input.
  Laid BY PROGRAM, IN A SANDBOX (cutbox-rows.mjs): the forced cells as the released guide's own fill.sh prints them over the translation 7a34a5c0f335ab57… (all of the seat's roots in one cut). By AI agents, Wed Nov 11 2026. No macro, syntax, notation, axiom, sorry.
-/
import Derived.Test.YtfbalpkjcfdakaaGreatDoorChecked
import GoSem.Claim
import GoSem.ClaimJoined
import GoSem.ClaimMapViews
import Derived.JoinedTies
import Derived.KernelRfl
namespace Go.Proofs.YtfbalpkjcfdakaaGreatDoor
/- THE CELL 'sum', in the pinned program and in every row, IS THE sha256 OF THE DUMP (.gsa) THAT YtfbalpkjcfdakaaGreatDoorProg.lean LOADS. Nothing in Lean hashes anything: it is a label: what it is worth is what the hold of that sum in a sandbox is worth. -/
noncomputable def Tryz.pinned : Pinned := { name := "ytfbalpkjcfdakaagreatdoor", sum := "7a34a5c0f335ab57478c2046b47ea93b29b47b1bacacaf314eb04c95813aab22", checked := Tryz.checked }
namespace Rows
def none {H : Type} : Left H := { results := [], args := [] }

/- WHAT THE LISTED PACKAGE-LEVEL VARIABLES READ AS WHEN THE CALL BEGINS. Each datum BY PROGRAM (the guide's laid-datum.mjs) off the statement by which the dump's own 'gosem.cut.vars' lays the variable. In a bare row this is a premise. The card (YtfbalpkjcfdakaaGreatDoorCards.lean) ties it to the program's text. -/
def laid_math_bits_deBruijn64tab {H : Type} : DataW H := .agg [.lit (.int .u8 0), .lit (.int .u8 1), .lit (.int .u8 56), .lit (.int .u8 2), .lit (.int .u8 57), .lit (.int .u8 49), .lit (.int .u8 28), .lit (.int .u8 3), .lit (.int .u8 61), .lit (.int .u8 58), .lit (.int .u8 42), .lit (.int .u8 50), .lit (.int .u8 38), .lit (.int .u8 29), .lit (.int .u8 17), .lit (.int .u8 4), .lit (.int .u8 62), .lit (.int .u8 47), .lit (.int .u8 59), .lit (.int .u8 36), .lit (.int .u8 45), .lit (.int .u8 43), .lit (.int .u8 51), .lit (.int .u8 22), .lit (.int .u8 53), .lit (.int .u8 39), .lit (.int .u8 33), .lit (.int .u8 30), .lit (.int .u8 24), .lit (.int .u8 18), .lit (.int .u8 12), .lit (.int .u8 5), .lit (.int .u8 63), .lit (.int .u8 55), .lit (.int .u8 48), .lit (.int .u8 27), .lit (.int .u8 60), .lit (.int .u8 41), .lit (.int .u8 37), .lit (.int .u8 16), .lit (.int .u8 46), .lit (.int .u8 35), .lit (.int .u8 44), .lit (.int .u8 21), .lit (.int .u8 52), .lit (.int .u8 32), .lit (.int .u8 23), .lit (.int .u8 11), .lit (.int .u8 54), .lit (.int .u8 26), .lit (.int .u8 40), .lit (.int .u8 15), .lit (.int .u8 34), .lit (.int .u8 20), .lit (.int .u8 31), .lit (.int .u8 10), .lit (.int .u8 25), .lit (.int .u8 14), .lit (.int .u8 19), .lit (.int .u8 9), .lit (.int .u8 13), .lit (.int .u8 8), .lit (.int .u8 7), .lit (.int .u8 6)]
def laid_loop_example_g00890_impl_orientationMatrices {H : Type} : DataW H := .agg [.agg [.lit (.int .i64 1), .lit (.int .i64 0), .lit (.int .i64 0), .lit (.int .i64 1)], .agg [.lit (.int .i64 0), .lit (.int .i64 (-1)), .lit (.int .i64 1), .lit (.int .i64 0)], .agg [.lit (.int .i64 (-1)), .lit (.int .i64 0), .lit (.int .i64 0), .lit (.int .i64 (-1))], .agg [.lit (.int .i64 0), .lit (.int .i64 1), .lit (.int .i64 (-1)), .lit (.int .i64 0)], .agg [.lit (.int .i64 1), .lit (.int .i64 0), .lit (.int .i64 0), .lit (.int .i64 (-1))], .agg [.lit (.int .i64 0), .lit (.int .i64 1), .lit (.int .i64 1), .lit (.int .i64 0)], .agg [.lit (.int .i64 (-1)), .lit (.int .i64 0), .lit (.int .i64 0), .lit (.int .i64 1)], .agg [.lit (.int .i64 0), .lit (.int .i64 (-1)), .lit (.int .i64 (-1)), .lit (.int .i64 0)]]
def laid_loop_example_g00890_impl_chip {H : Type} : DataW H := .agg [.lit (.int .i64 (-40)), .lit (.int .i64 (-40)), .lit (.int .i64 40), .lit (.int .i64 40)]

/-- 'laws.FnExactRegionPolygons': WHATEVER THE INPUT: true; the input reads as it did. -/
def fnExactRegionPolygonsSpec : ChangeSpec := { name := "fnExactRegionPolygons", vars := ["loop.example/g00890/impl.chip", "loop.example/g00890/impl.orientationMatrices"], fn := fun _ => fun
  | [d, g1, g2] => { results := [.lit (.bool true)], args := [d], vars := [g1, g2] }
  | _ => none }
def fnExactRegionPolygonsRow : OpenClaim := { program := "ytfbalpkjcfdakaagreatdoor", sum := "7a34a5c0f335ab57478c2046b47ea93b29b47b1bacacaf314eb04c95813aab22", func := "loop.example/g00890/laws.FnExactRegionPolygons", spec := "fnExactRegionPolygons", unfollowed := true, recurses := true, named := ["loop.example/g00890/impl.chip", "math/bits.deBruijn64tab", "loop.example/g00890/impl.orientationMatrices"], plainKeys := false, apart := false, laid := [("math/bits.deBruijn64tab", laid_math_bits_deBruijn64tab), ("loop.example/g00890/impl.orientationMatrices", laid_loop_example_g00890_impl_orientationMatrices), ("loop.example/g00890/impl.chip", laid_loop_example_g00890_impl_chip)] }
def FnExactRegionPolygonsSaid : Prop := fnExactRegionPolygonsRow.holds Tryz.pinned (OpenSpec.ofChange fnExactRegionPolygonsSpec)

/-- ITS FALSE NEIGHBOUR: 'it returns false'. Refute it at one input. -/
def fnExactRegionPolygonsWrong : ChangeSpec := { name := "fnExactRegionPolygons", vars := ["loop.example/g00890/impl.chip", "loop.example/g00890/impl.orientationMatrices"], fn := fun _ => fun
  | [d, g1, g2] => { results := [.lit (.bool false)], args := [d], vars := [g1, g2] }
  | _ => none }
def FnExactRegionPolygonsWrongFalsely : Prop := fnExactRegionPolygonsRow.holds Tryz.pinned (OpenSpec.ofChange fnExactRegionPolygonsWrong)

/-- 'laws.FnPolygons': WHATEVER THE INPUT: true; the input reads as it did. -/
def fnPolygonsSpec : ChangeSpec := { name := "fnPolygons", vars := ["loop.example/g00890/impl.chip", "loop.example/g00890/impl.orientationMatrices"], fn := fun _ => fun
  | [d, g1, g2] => { results := [.lit (.bool true)], args := [d], vars := [g1, g2] }
  | _ => none }
def fnPolygonsRow : OpenClaim := { program := "ytfbalpkjcfdakaagreatdoor", sum := "7a34a5c0f335ab57478c2046b47ea93b29b47b1bacacaf314eb04c95813aab22", func := "loop.example/g00890/laws.FnPolygons", spec := "fnPolygons", unfollowed := true, recurses := true, named := ["loop.example/g00890/impl.chip", "math/bits.deBruijn64tab", "loop.example/g00890/impl.orientationMatrices"], plainKeys := false, apart := false, laid := [("math/bits.deBruijn64tab", laid_math_bits_deBruijn64tab), ("loop.example/g00890/impl.orientationMatrices", laid_loop_example_g00890_impl_orientationMatrices), ("loop.example/g00890/impl.chip", laid_loop_example_g00890_impl_chip)] }
def FnPolygonsSaid : Prop := fnPolygonsRow.holds Tryz.pinned (OpenSpec.ofChange fnPolygonsSpec)

/-- ITS FALSE NEIGHBOUR: 'it returns false'. Refute it at one input. -/
def fnPolygonsWrong : ChangeSpec := { name := "fnPolygons", vars := ["loop.example/g00890/impl.chip", "loop.example/g00890/impl.orientationMatrices"], fn := fun _ => fun
  | [d, g1, g2] => { results := [.lit (.bool false)], args := [d], vars := [g1, g2] }
  | _ => none }
def FnPolygonsWrongFalsely : Prop := fnPolygonsRow.holds Tryz.pinned (OpenSpec.ofChange fnPolygonsWrong)

/-- 'laws.FnExactRegionFromEdges': WHATEVER THE INPUT: true; the input reads as it did. -/
def fnExactRegionFromEdgesSpec : ChangeSpec := { name := "fnExactRegionFromEdges", vars := ["loop.example/g00890/impl.chip", "loop.example/g00890/impl.orientationMatrices"], fn := fun _ => fun
  | [d, g1, g2] => { results := [.lit (.bool true)], args := [d], vars := [g1, g2] }
  | _ => none }
def fnExactRegionFromEdgesRow : OpenClaim := { program := "ytfbalpkjcfdakaagreatdoor", sum := "7a34a5c0f335ab57478c2046b47ea93b29b47b1bacacaf314eb04c95813aab22", func := "loop.example/g00890/laws.FnExactRegionFromEdges", spec := "fnExactRegionFromEdges", unfollowed := true, recurses := true, named := ["math/bits.deBruijn64tab", "loop.example/g00890/impl.chip", "loop.example/g00890/impl.orientationMatrices"], plainKeys := false, apart := false, laid := [("math/bits.deBruijn64tab", laid_math_bits_deBruijn64tab), ("loop.example/g00890/impl.orientationMatrices", laid_loop_example_g00890_impl_orientationMatrices), ("loop.example/g00890/impl.chip", laid_loop_example_g00890_impl_chip)] }
def FnExactRegionFromEdgesSaid : Prop := fnExactRegionFromEdgesRow.holds Tryz.pinned (OpenSpec.ofChange fnExactRegionFromEdgesSpec)

/-- ITS FALSE NEIGHBOUR: 'it returns false'. Refute it at one input. -/
def fnExactRegionFromEdgesWrong : ChangeSpec := { name := "fnExactRegionFromEdges", vars := ["loop.example/g00890/impl.chip", "loop.example/g00890/impl.orientationMatrices"], fn := fun _ => fun
  | [d, g1, g2] => { results := [.lit (.bool false)], args := [d], vars := [g1, g2] }
  | _ => none }
def FnExactRegionFromEdgesWrongFalsely : Prop := fnExactRegionFromEdgesRow.holds Tryz.pinned (OpenSpec.ofChange fnExactRegionFromEdgesWrong)

/-- 'laws.FnEdges': WHATEVER THE INPUT: true; the input reads as it did. -/
def fnEdgesSpec : ChangeSpec := { name := "fnEdges", vars := ["loop.example/g00890/impl.chip", "loop.example/g00890/impl.orientationMatrices"], fn := fun _ => fun
  | [d, g1, g2] => { results := [.lit (.bool true)], args := [d], vars := [g1, g2] }
  | _ => none }
def fnEdgesRow : OpenClaim := { program := "ytfbalpkjcfdakaagreatdoor", sum := "7a34a5c0f335ab57478c2046b47ea93b29b47b1bacacaf314eb04c95813aab22", func := "loop.example/g00890/laws.FnEdges", spec := "fnEdges", unfollowed := true, recurses := true, named := ["loop.example/g00890/impl.chip", "math/bits.deBruijn64tab", "loop.example/g00890/impl.orientationMatrices"], plainKeys := false, apart := false, laid := [("math/bits.deBruijn64tab", laid_math_bits_deBruijn64tab), ("loop.example/g00890/impl.orientationMatrices", laid_loop_example_g00890_impl_orientationMatrices), ("loop.example/g00890/impl.chip", laid_loop_example_g00890_impl_chip)] }
def FnEdgesSaid : Prop := fnEdgesRow.holds Tryz.pinned (OpenSpec.ofChange fnEdgesSpec)

/-- ITS FALSE NEIGHBOUR: 'it returns false'. Refute it at one input. -/
def fnEdgesWrong : ChangeSpec := { name := "fnEdges", vars := ["loop.example/g00890/impl.chip", "loop.example/g00890/impl.orientationMatrices"], fn := fun _ => fun
  | [d, g1, g2] => { results := [.lit (.bool false)], args := [d], vars := [g1, g2] }
  | _ => none }
def FnEdgesWrongFalsely : Prop := fnEdgesRow.holds Tryz.pinned (OpenSpec.ofChange fnEdgesWrong)

/-- 'laws.FnExactFacingEdges': WHATEVER THE INPUT: true; the input reads as it did. -/
def fnExactFacingEdgesSpec : ChangeSpec := { name := "fnExactFacingEdges", vars := ["loop.example/g00890/impl.chip", "loop.example/g00890/impl.orientationMatrices"], fn := fun _ => fun
  | [d1, d2, d3, g1, g2] => { results := [.lit (.bool true)], args := [d1, d2, d3], vars := [g1, g2] }
  | _ => none }
def fnExactFacingEdgesRow : OpenClaim := { program := "ytfbalpkjcfdakaagreatdoor", sum := "7a34a5c0f335ab57478c2046b47ea93b29b47b1bacacaf314eb04c95813aab22", func := "loop.example/g00890/laws.FnExactFacingEdges", spec := "fnExactFacingEdges", unfollowed := true, recurses := true, named := ["loop.example/g00890/impl.chip", "math/bits.deBruijn64tab", "loop.example/g00890/impl.orientationMatrices"], plainKeys := false, apart := false, laid := [("math/bits.deBruijn64tab", laid_math_bits_deBruijn64tab), ("loop.example/g00890/impl.orientationMatrices", laid_loop_example_g00890_impl_orientationMatrices), ("loop.example/g00890/impl.chip", laid_loop_example_g00890_impl_chip)] }
def FnExactFacingEdgesSaid : Prop := fnExactFacingEdgesRow.holds Tryz.pinned (OpenSpec.ofChange fnExactFacingEdgesSpec)

/-- ITS FALSE NEIGHBOUR: 'it returns false'. Refute it at one input. -/
def fnExactFacingEdgesWrong : ChangeSpec := { name := "fnExactFacingEdges", vars := ["loop.example/g00890/impl.chip", "loop.example/g00890/impl.orientationMatrices"], fn := fun _ => fun
  | [d1, d2, d3, g1, g2] => { results := [.lit (.bool false)], args := [d1, d2, d3], vars := [g1, g2] }
  | _ => none }
def FnExactFacingEdgesWrongFalsely : Prop := fnExactFacingEdgesRow.holds Tryz.pinned (OpenSpec.ofChange fnExactFacingEdgesWrong)

/- THE SECOND FORM. 'bulk': how many values and letters a reading holds, each counted each time it is reached (what is shared counts as often as it is met; a slice's spare places count too). A statement '..UptoSaid' is the law's where the arguments, and the package variables that the reading takes, are together of bulk at most 1048576: NARROWER than '..Said'. Prove '..Said' where nothing that the law and all that it calls make is longer than what came in: it says more and counts as full. Else prove '..UptoSaid'. A law counts once. -/
mutual
def uptoBulk {H : Type} : DataW H → Nat
  | .lit (.string bytes) => bytes.length + 1
  | .lit _ => 1
  | .nil => 1
  | .ptr d => uptoBulk d + 1
  | .slice elems spare => uptoBulkAll elems + uptoBulkAll spare + 1
  | .agg parts => uptoBulkAll parts + 1
  | .iface _ d => uptoBulk d + 1
  | .map entries => uptoBulkEntries entries + 1
  | .held _ => 1
def uptoBulkAll {H : Type} : List (DataW H) → Nat
  | [] => 0
  | d :: r => uptoBulk d + uptoBulkAll r
def uptoBulkEntries {H : Type} : List (Lit × DataW H) → Nat
  | [] => 0
  | x :: r => uptoBulkEntry x + uptoBulkEntries r
def uptoBulkEntry {H : Type} : Lit × DataW H → Nat
  | (.string bytes, d) => bytes.length + uptoBulk d + 1
  | (_, d) => uptoBulk d + 1
 end
def uptoSmall : (H : Type) → List (DataW H) → Bool := fun _ ds => decide (uptoBulkAll ds ≤ 1048576)
def OpenSpec.upto (s : _root_.Go.ChangeSpec) : _root_.Go.OpenSpec := { _root_.Go.OpenSpec.ofChange s with cond := some uptoSmall }

/-- 'laws.FnExactRegionPolygons', WHERE WHAT IT READS IS OF BULK AT MOST 1048576: true; the input reads as it did. -/
def fnExactRegionPolygonsUptoRow : OpenClaim := { program := "ytfbalpkjcfdakaagreatdoor", sum := "7a34a5c0f335ab57478c2046b47ea93b29b47b1bacacaf314eb04c95813aab22", func := "loop.example/g00890/laws.FnExactRegionPolygons", spec := "fnExactRegionPolygons", unfollowed := true, recurses := true, named := ["loop.example/g00890/impl.chip", "math/bits.deBruijn64tab", "loop.example/g00890/impl.orientationMatrices"], plainKeys := false, apart := false, laid := [("math/bits.deBruijn64tab", laid_math_bits_deBruijn64tab), ("loop.example/g00890/impl.orientationMatrices", laid_loop_example_g00890_impl_orientationMatrices), ("loop.example/g00890/impl.chip", laid_loop_example_g00890_impl_chip)], narrowed := true }
def FnExactRegionPolygonsUptoSaid : Prop := fnExactRegionPolygonsUptoRow.holds Tryz.pinned (OpenSpec.upto fnExactRegionPolygonsSpec)

/-- 'laws.FnPolygons', WHERE WHAT IT READS IS OF BULK AT MOST 1048576: true; the input reads as it did. -/
def fnPolygonsUptoRow : OpenClaim := { program := "ytfbalpkjcfdakaagreatdoor", sum := "7a34a5c0f335ab57478c2046b47ea93b29b47b1bacacaf314eb04c95813aab22", func := "loop.example/g00890/laws.FnPolygons", spec := "fnPolygons", unfollowed := true, recurses := true, named := ["loop.example/g00890/impl.chip", "math/bits.deBruijn64tab", "loop.example/g00890/impl.orientationMatrices"], plainKeys := false, apart := false, laid := [("math/bits.deBruijn64tab", laid_math_bits_deBruijn64tab), ("loop.example/g00890/impl.orientationMatrices", laid_loop_example_g00890_impl_orientationMatrices), ("loop.example/g00890/impl.chip", laid_loop_example_g00890_impl_chip)], narrowed := true }
def FnPolygonsUptoSaid : Prop := fnPolygonsUptoRow.holds Tryz.pinned (OpenSpec.upto fnPolygonsSpec)

/-- 'laws.FnExactRegionFromEdges', WHERE WHAT IT READS IS OF BULK AT MOST 1048576: true; the input reads as it did. -/
def fnExactRegionFromEdgesUptoRow : OpenClaim := { program := "ytfbalpkjcfdakaagreatdoor", sum := "7a34a5c0f335ab57478c2046b47ea93b29b47b1bacacaf314eb04c95813aab22", func := "loop.example/g00890/laws.FnExactRegionFromEdges", spec := "fnExactRegionFromEdges", unfollowed := true, recurses := true, named := ["math/bits.deBruijn64tab", "loop.example/g00890/impl.chip", "loop.example/g00890/impl.orientationMatrices"], plainKeys := false, apart := false, laid := [("math/bits.deBruijn64tab", laid_math_bits_deBruijn64tab), ("loop.example/g00890/impl.orientationMatrices", laid_loop_example_g00890_impl_orientationMatrices), ("loop.example/g00890/impl.chip", laid_loop_example_g00890_impl_chip)], narrowed := true }
def FnExactRegionFromEdgesUptoSaid : Prop := fnExactRegionFromEdgesUptoRow.holds Tryz.pinned (OpenSpec.upto fnExactRegionFromEdgesSpec)

/-- 'laws.FnEdges', WHERE WHAT IT READS IS OF BULK AT MOST 1048576: true; the input reads as it did. -/
def fnEdgesUptoRow : OpenClaim := { program := "ytfbalpkjcfdakaagreatdoor", sum := "7a34a5c0f335ab57478c2046b47ea93b29b47b1bacacaf314eb04c95813aab22", func := "loop.example/g00890/laws.FnEdges", spec := "fnEdges", unfollowed := true, recurses := true, named := ["loop.example/g00890/impl.chip", "math/bits.deBruijn64tab", "loop.example/g00890/impl.orientationMatrices"], plainKeys := false, apart := false, laid := [("math/bits.deBruijn64tab", laid_math_bits_deBruijn64tab), ("loop.example/g00890/impl.orientationMatrices", laid_loop_example_g00890_impl_orientationMatrices), ("loop.example/g00890/impl.chip", laid_loop_example_g00890_impl_chip)], narrowed := true }
def FnEdgesUptoSaid : Prop := fnEdgesUptoRow.holds Tryz.pinned (OpenSpec.upto fnEdgesSpec)

/-- 'laws.FnExactFacingEdges', WHERE WHAT IT READS IS OF BULK AT MOST 1048576: true; the input reads as it did. -/
def fnExactFacingEdgesUptoRow : OpenClaim := { program := "ytfbalpkjcfdakaagreatdoor", sum := "7a34a5c0f335ab57478c2046b47ea93b29b47b1bacacaf314eb04c95813aab22", func := "loop.example/g00890/laws.FnExactFacingEdges", spec := "fnExactFacingEdges", unfollowed := true, recurses := true, named := ["loop.example/g00890/impl.chip", "math/bits.deBruijn64tab", "loop.example/g00890/impl.orientationMatrices"], plainKeys := false, apart := false, laid := [("math/bits.deBruijn64tab", laid_math_bits_deBruijn64tab), ("loop.example/g00890/impl.orientationMatrices", laid_loop_example_g00890_impl_orientationMatrices), ("loop.example/g00890/impl.chip", laid_loop_example_g00890_impl_chip)], narrowed := true }
def FnExactFacingEdgesUptoSaid : Prop := fnExactFacingEdgesUptoRow.holds Tryz.pinned (OpenSpec.upto fnExactFacingEdgesSpec)

end Rows
end Go.Proofs.YtfbalpkjcfdakaaGreatDoor
