/-
  NARROWER THAN 'FOR EVERY INPUT', by the rows' own cells (each row's printed sentence says how): FnExactIsRegion: laid · FnExactRegionOf: laid · FnExactRegionArea: laid · FnExactRegionContains: laid · FnExactRegionBox: laid · FnExactRegionRow: laid · FnExactClipRegion: laid · FnExactMoveRegion: laid.
  DERIVED. THE GIVEN ROWS OF THIS SEAT. 8 by the template 'for every input the law returns true; each argument reads behind the call as it read before'; 0 by the template 'total and deterministic' (their statements: YtadfmflkaemmbaaDoorTotals.lean).
  GIVEN WITH THE SEED: the statements are not yours to turn. If you find one false, say at which input.
  Laid BY PROGRAM, IN A SANDBOX (cutbox-rows.mjs): the forced cells as the released guide's own fill.sh prints them over the translation b2795b1358f6221f… (all of the seat's roots in one cut). By AI agents, Wed Nov 11 2026. No macro, syntax, notation, axiom, sorry.
-/
import Derived.Test.YtadfmflkaemmbaaDoorChecked
import GoSem.Claim
import GoSem.ClaimJoined
import GoSem.ClaimMapViews
import Derived.JoinedTies
import Derived.KernelRfl
namespace Go.Proofs.YtadfmflkaemmbaaDoor
/- THE CELL 'sum', in the pinned program and in every row, IS THE sha256 OF THE DUMP (.gsa) THAT YtadfmflkaemmbaaDoorProg.lean LOADS. Nothing in Lean hashes anything: it is a label: what it is worth is what the hold of that sum in a sandbox is worth. -/
noncomputable def Tryd.pinned : Pinned := { name := "ytadfmflkaemmbaadoor", sum := "b2795b1358f6221f567b0a43c2454b86ade8efaa61e50873f504a6510eb2c493", checked := Tryd.checked }
namespace Rows
def none {H : Type} : Left H := { results := [], args := [] }

/- WHAT THE LISTED PACKAGE-LEVEL VARIABLES READ AS WHEN THE CALL BEGINS. Each datum BY PROGRAM (the guide's laid-datum.mjs) off the statement by which the dump's own 'gosem.cut.vars' lays the variable. In a bare row this is a premise. The card (YtadfmflkaemmbaaDoorCards.lean) ties it to the program's text. -/
def laid_math_bits_deBruijn64tab {H : Type} : DataW H := .agg [.lit (.int .u8 0), .lit (.int .u8 1), .lit (.int .u8 56), .lit (.int .u8 2), .lit (.int .u8 57), .lit (.int .u8 49), .lit (.int .u8 28), .lit (.int .u8 3), .lit (.int .u8 61), .lit (.int .u8 58), .lit (.int .u8 42), .lit (.int .u8 50), .lit (.int .u8 38), .lit (.int .u8 29), .lit (.int .u8 17), .lit (.int .u8 4), .lit (.int .u8 62), .lit (.int .u8 47), .lit (.int .u8 59), .lit (.int .u8 36), .lit (.int .u8 45), .lit (.int .u8 43), .lit (.int .u8 51), .lit (.int .u8 22), .lit (.int .u8 53), .lit (.int .u8 39), .lit (.int .u8 33), .lit (.int .u8 30), .lit (.int .u8 24), .lit (.int .u8 18), .lit (.int .u8 12), .lit (.int .u8 5), .lit (.int .u8 63), .lit (.int .u8 55), .lit (.int .u8 48), .lit (.int .u8 27), .lit (.int .u8 60), .lit (.int .u8 41), .lit (.int .u8 37), .lit (.int .u8 16), .lit (.int .u8 46), .lit (.int .u8 35), .lit (.int .u8 44), .lit (.int .u8 21), .lit (.int .u8 52), .lit (.int .u8 32), .lit (.int .u8 23), .lit (.int .u8 11), .lit (.int .u8 54), .lit (.int .u8 26), .lit (.int .u8 40), .lit (.int .u8 15), .lit (.int .u8 34), .lit (.int .u8 20), .lit (.int .u8 31), .lit (.int .u8 10), .lit (.int .u8 25), .lit (.int .u8 14), .lit (.int .u8 19), .lit (.int .u8 9), .lit (.int .u8 13), .lit (.int .u8 8), .lit (.int .u8 7), .lit (.int .u8 6)]
def laid_loop_example_g00890_impl_orientationMatrices {H : Type} : DataW H := .agg [.agg [.lit (.int .i64 1), .lit (.int .i64 0), .lit (.int .i64 0), .lit (.int .i64 1)], .agg [.lit (.int .i64 0), .lit (.int .i64 (-1)), .lit (.int .i64 1), .lit (.int .i64 0)], .agg [.lit (.int .i64 (-1)), .lit (.int .i64 0), .lit (.int .i64 0), .lit (.int .i64 (-1))], .agg [.lit (.int .i64 0), .lit (.int .i64 1), .lit (.int .i64 (-1)), .lit (.int .i64 0)], .agg [.lit (.int .i64 1), .lit (.int .i64 0), .lit (.int .i64 0), .lit (.int .i64 (-1))], .agg [.lit (.int .i64 0), .lit (.int .i64 1), .lit (.int .i64 1), .lit (.int .i64 0)], .agg [.lit (.int .i64 (-1)), .lit (.int .i64 0), .lit (.int .i64 0), .lit (.int .i64 1)], .agg [.lit (.int .i64 0), .lit (.int .i64 (-1)), .lit (.int .i64 (-1)), .lit (.int .i64 0)]]

/-- 'laws.FnExactIsRegion': WHATEVER THE INPUT: true; the input reads as it did. -/
def fnExactIsRegionSpec : ChangeSpec := { name := "fnExactIsRegion", fn := fun _ => fun
  | [d] => { results := [.lit (.bool true)], args := [d] }
  | _ => none }
def fnExactIsRegionRow : OpenClaim := { program := "ytadfmflkaemmbaadoor", sum := "b2795b1358f6221f567b0a43c2454b86ade8efaa61e50873f504a6510eb2c493", func := "loop.example/g00890/laws.FnExactIsRegion", spec := "fnExactIsRegion", unfollowed := true, recurses := true, named := ["math/bits.deBruijn64tab"], apart := false, laid := [("math/bits.deBruijn64tab", laid_math_bits_deBruijn64tab)] }
def FnExactIsRegionSaid : Prop := fnExactIsRegionRow.holds Tryd.pinned (OpenSpec.ofChange fnExactIsRegionSpec)

/-- ITS FALSE NEIGHBOUR: 'it returns false'. Refute it at one input. -/
def fnExactIsRegionWrong : ChangeSpec := { name := "fnExactIsRegion", fn := fun _ => fun
  | [d] => { results := [.lit (.bool false)], args := [d] }
  | _ => none }
def FnExactIsRegionWrongFalsely : Prop := fnExactIsRegionRow.holds Tryd.pinned (OpenSpec.ofChange fnExactIsRegionWrong)

/-- 'laws.FnExactRegionOf': WHATEVER THE INPUT: true; the input reads as it did. -/
def fnExactRegionOfSpec : ChangeSpec := { name := "fnExactRegionOf", fn := fun _ => fun
  | [d] => { results := [.lit (.bool true)], args := [d] }
  | _ => none }
def fnExactRegionOfRow : OpenClaim := { program := "ytadfmflkaemmbaadoor", sum := "b2795b1358f6221f567b0a43c2454b86ade8efaa61e50873f504a6510eb2c493", func := "loop.example/g00890/laws.FnExactRegionOf", spec := "fnExactRegionOf", unfollowed := true, recurses := true, named := ["math/bits.deBruijn64tab"], apart := false, laid := [("math/bits.deBruijn64tab", laid_math_bits_deBruijn64tab)] }
def FnExactRegionOfSaid : Prop := fnExactRegionOfRow.holds Tryd.pinned (OpenSpec.ofChange fnExactRegionOfSpec)

/-- ITS FALSE NEIGHBOUR: 'it returns false'. Refute it at one input. -/
def fnExactRegionOfWrong : ChangeSpec := { name := "fnExactRegionOf", fn := fun _ => fun
  | [d] => { results := [.lit (.bool false)], args := [d] }
  | _ => none }
def FnExactRegionOfWrongFalsely : Prop := fnExactRegionOfRow.holds Tryd.pinned (OpenSpec.ofChange fnExactRegionOfWrong)

/-- 'laws.FnExactRegionArea': WHATEVER THE INPUT: true; the input reads as it did. -/
def fnExactRegionAreaSpec : ChangeSpec := { name := "fnExactRegionArea", fn := fun _ => fun
  | [d] => { results := [.lit (.bool true)], args := [d] }
  | _ => none }
def fnExactRegionAreaRow : OpenClaim := { program := "ytadfmflkaemmbaadoor", sum := "b2795b1358f6221f567b0a43c2454b86ade8efaa61e50873f504a6510eb2c493", func := "loop.example/g00890/laws.FnExactRegionArea", spec := "fnExactRegionArea", unfollowed := true, recurses := true, named := ["math/bits.deBruijn64tab"], apart := false, laid := [("math/bits.deBruijn64tab", laid_math_bits_deBruijn64tab)] }
def FnExactRegionAreaSaid : Prop := fnExactRegionAreaRow.holds Tryd.pinned (OpenSpec.ofChange fnExactRegionAreaSpec)

/-- ITS FALSE NEIGHBOUR: 'it returns false'. Refute it at one input. -/
def fnExactRegionAreaWrong : ChangeSpec := { name := "fnExactRegionArea", fn := fun _ => fun
  | [d] => { results := [.lit (.bool false)], args := [d] }
  | _ => none }
def FnExactRegionAreaWrongFalsely : Prop := fnExactRegionAreaRow.holds Tryd.pinned (OpenSpec.ofChange fnExactRegionAreaWrong)

/-- 'laws.FnExactRegionContains': WHATEVER THE INPUT: true; the input reads as it did. -/
def fnExactRegionContainsSpec : ChangeSpec := { name := "fnExactRegionContains", fn := fun _ => fun
  | [d1, d2, d3] => { results := [.lit (.bool true)], args := [d1, d2, d3] }
  | _ => none }
def fnExactRegionContainsRow : OpenClaim := { program := "ytadfmflkaemmbaadoor", sum := "b2795b1358f6221f567b0a43c2454b86ade8efaa61e50873f504a6510eb2c493", func := "loop.example/g00890/laws.FnExactRegionContains", spec := "fnExactRegionContains", unfollowed := true, recurses := true, named := ["math/bits.deBruijn64tab"], apart := false, laid := [("math/bits.deBruijn64tab", laid_math_bits_deBruijn64tab)] }
def FnExactRegionContainsSaid : Prop := fnExactRegionContainsRow.holds Tryd.pinned (OpenSpec.ofChange fnExactRegionContainsSpec)

/-- ITS FALSE NEIGHBOUR: 'it returns false'. Refute it at one input. -/
def fnExactRegionContainsWrong : ChangeSpec := { name := "fnExactRegionContains", fn := fun _ => fun
  | [d1, d2, d3] => { results := [.lit (.bool false)], args := [d1, d2, d3] }
  | _ => none }
def FnExactRegionContainsWrongFalsely : Prop := fnExactRegionContainsRow.holds Tryd.pinned (OpenSpec.ofChange fnExactRegionContainsWrong)

/-- 'laws.FnExactRegionBox': WHATEVER THE INPUT: true; the input reads as it did. -/
def fnExactRegionBoxSpec : ChangeSpec := { name := "fnExactRegionBox", fn := fun _ => fun
  | [d] => { results := [.lit (.bool true)], args := [d] }
  | _ => none }
def fnExactRegionBoxRow : OpenClaim := { program := "ytadfmflkaemmbaadoor", sum := "b2795b1358f6221f567b0a43c2454b86ade8efaa61e50873f504a6510eb2c493", func := "loop.example/g00890/laws.FnExactRegionBox", spec := "fnExactRegionBox", unfollowed := true, recurses := true, named := ["math/bits.deBruijn64tab"], apart := false, laid := [("math/bits.deBruijn64tab", laid_math_bits_deBruijn64tab)] }
def FnExactRegionBoxSaid : Prop := fnExactRegionBoxRow.holds Tryd.pinned (OpenSpec.ofChange fnExactRegionBoxSpec)

/-- ITS FALSE NEIGHBOUR: 'it returns false'. Refute it at one input. -/
def fnExactRegionBoxWrong : ChangeSpec := { name := "fnExactRegionBox", fn := fun _ => fun
  | [d] => { results := [.lit (.bool false)], args := [d] }
  | _ => none }
def FnExactRegionBoxWrongFalsely : Prop := fnExactRegionBoxRow.holds Tryd.pinned (OpenSpec.ofChange fnExactRegionBoxWrong)

/-- 'laws.FnExactRegionRow': WHATEVER THE INPUT: true; the input reads as it did. -/
def fnExactRegionRowSpec : ChangeSpec := { name := "fnExactRegionRow", fn := fun _ => fun
  | [d1, d2] => { results := [.lit (.bool true)], args := [d1, d2] }
  | _ => none }
def fnExactRegionRowRow : OpenClaim := { program := "ytadfmflkaemmbaadoor", sum := "b2795b1358f6221f567b0a43c2454b86ade8efaa61e50873f504a6510eb2c493", func := "loop.example/g00890/laws.FnExactRegionRow", spec := "fnExactRegionRow", unfollowed := true, recurses := true, named := ["math/bits.deBruijn64tab"], apart := false, laid := [("math/bits.deBruijn64tab", laid_math_bits_deBruijn64tab)] }
def FnExactRegionRowSaid : Prop := fnExactRegionRowRow.holds Tryd.pinned (OpenSpec.ofChange fnExactRegionRowSpec)

/-- ITS FALSE NEIGHBOUR: 'it returns false'. Refute it at one input. -/
def fnExactRegionRowWrong : ChangeSpec := { name := "fnExactRegionRow", fn := fun _ => fun
  | [d1, d2] => { results := [.lit (.bool false)], args := [d1, d2] }
  | _ => none }
def FnExactRegionRowWrongFalsely : Prop := fnExactRegionRowRow.holds Tryd.pinned (OpenSpec.ofChange fnExactRegionRowWrong)

/-- 'laws.FnExactClipRegion': WHATEVER THE INPUT: true; the input reads as it did. -/
def fnExactClipRegionSpec : ChangeSpec := { name := "fnExactClipRegion", fn := fun _ => fun
  | [d1, d2] => { results := [.lit (.bool true)], args := [d1, d2] }
  | _ => none }
def fnExactClipRegionRow : OpenClaim := { program := "ytadfmflkaemmbaadoor", sum := "b2795b1358f6221f567b0a43c2454b86ade8efaa61e50873f504a6510eb2c493", func := "loop.example/g00890/laws.FnExactClipRegion", spec := "fnExactClipRegion", unfollowed := true, recurses := true, named := ["math/bits.deBruijn64tab"], apart := false, laid := [("math/bits.deBruijn64tab", laid_math_bits_deBruijn64tab)] }
def FnExactClipRegionSaid : Prop := fnExactClipRegionRow.holds Tryd.pinned (OpenSpec.ofChange fnExactClipRegionSpec)

/-- ITS FALSE NEIGHBOUR: 'it returns false'. Refute it at one input. -/
def fnExactClipRegionWrong : ChangeSpec := { name := "fnExactClipRegion", fn := fun _ => fun
  | [d1, d2] => { results := [.lit (.bool false)], args := [d1, d2] }
  | _ => none }
def FnExactClipRegionWrongFalsely : Prop := fnExactClipRegionRow.holds Tryd.pinned (OpenSpec.ofChange fnExactClipRegionWrong)

/-- 'laws.FnExactMoveRegion': WHATEVER THE INPUT: true; the input reads as it did. -/
def fnExactMoveRegionSpec : ChangeSpec := { name := "fnExactMoveRegion", vars := ["loop.example/g00890/impl.orientationMatrices"], fn := fun _ => fun
  | [d1, d2, g1] => { results := [.lit (.bool true)], args := [d1, d2], vars := [g1] }
  | _ => none }
def fnExactMoveRegionRow : OpenClaim := { program := "ytadfmflkaemmbaadoor", sum := "b2795b1358f6221f567b0a43c2454b86ade8efaa61e50873f504a6510eb2c493", func := "loop.example/g00890/laws.FnExactMoveRegion", spec := "fnExactMoveRegion", unfollowed := true, recurses := true, named := ["math/bits.deBruijn64tab", "loop.example/g00890/impl.orientationMatrices"], apart := false, laid := [("math/bits.deBruijn64tab", laid_math_bits_deBruijn64tab), ("loop.example/g00890/impl.orientationMatrices", laid_loop_example_g00890_impl_orientationMatrices)] }
def FnExactMoveRegionSaid : Prop := fnExactMoveRegionRow.holds Tryd.pinned (OpenSpec.ofChange fnExactMoveRegionSpec)

/-- ITS FALSE NEIGHBOUR: 'it returns false'. Refute it at one input. -/
def fnExactMoveRegionWrong : ChangeSpec := { name := "fnExactMoveRegion", vars := ["loop.example/g00890/impl.orientationMatrices"], fn := fun _ => fun
  | [d1, d2, g1] => { results := [.lit (.bool false)], args := [d1, d2], vars := [g1] }
  | _ => none }
def FnExactMoveRegionWrongFalsely : Prop := fnExactMoveRegionRow.holds Tryd.pinned (OpenSpec.ofChange fnExactMoveRegionWrong)

/- THE SECOND FORM. 'bulk': how many values and letters a reading holds, each counted each time it is reached (what is shared counts as often as it is met; a slice's spare places count too). A statement '..UptoSaid' is the law's where the arguments, and the package variables that the reading takes, are together of bulk at most 1048576: NARROWER than '..Said'. Prove '..Said' where nothing that the law and all that it calls make is longer than what came in: it says more and counts as full. Else prove '..UptoSaid'. A law counts once. -/
mutual
def uptoBulk {H : Type} : DataW H → Nat
  | .lit (.string bytes) => bytes.length + 1
  | .lit _ => 1
  | .nil => 1
  | .ptr d => uptoBulk d + 1
  | .slice elems spare => uptoBulkAll elems + uptoBulkAll spare + 1
  | .agg parts => uptoBulkAll parts + 1
  | .iface _ d => uptoBulk d + 1
  | .map entries => uptoBulkEntries entries + 1
  | .held _ => 1
def uptoBulkAll {H : Type} : List (DataW H) → Nat
  | [] => 0
  | d :: r => uptoBulk d + uptoBulkAll r
def uptoBulkEntries {H : Type} : List (Lit × DataW H) → Nat
  | [] => 0
  | x :: r => uptoBulkEntry x + uptoBulkEntries r
def uptoBulkEntry {H : Type} : Lit × DataW H → Nat
  | (.string bytes, d) => bytes.length + uptoBulk d + 1
  | (_, d) => uptoBulk d + 1
 end
def uptoSmall : (H : Type) → List (DataW H) → Bool := fun _ ds => decide (uptoBulkAll ds ≤ 1048576)
def OpenSpec.upto (s : _root_.Go.ChangeSpec) : _root_.Go.OpenSpec := { _root_.Go.OpenSpec.ofChange s with cond := some uptoSmall }

/-- 'laws.FnExactIsRegion', WHERE WHAT IT READS IS OF BULK AT MOST 1048576: true; the input reads as it did. -/
def fnExactIsRegionUptoRow : OpenClaim := { program := "ytadfmflkaemmbaadoor", sum := "b2795b1358f6221f567b0a43c2454b86ade8efaa61e50873f504a6510eb2c493", func := "loop.example/g00890/laws.FnExactIsRegion", spec := "fnExactIsRegion", unfollowed := true, recurses := true, named := ["math/bits.deBruijn64tab"], apart := false, laid := [("math/bits.deBruijn64tab", laid_math_bits_deBruijn64tab)], narrowed := true }
def FnExactIsRegionUptoSaid : Prop := fnExactIsRegionUptoRow.holds Tryd.pinned (OpenSpec.upto fnExactIsRegionSpec)

/-- 'laws.FnExactRegionOf', WHERE WHAT IT READS IS OF BULK AT MOST 1048576: true; the input reads as it did. -/
def fnExactRegionOfUptoRow : OpenClaim := { program := "ytadfmflkaemmbaadoor", sum := "b2795b1358f6221f567b0a43c2454b86ade8efaa61e50873f504a6510eb2c493", func := "loop.example/g00890/laws.FnExactRegionOf", spec := "fnExactRegionOf", unfollowed := true, recurses := true, named := ["math/bits.deBruijn64tab"], apart := false, laid := [("math/bits.deBruijn64tab", laid_math_bits_deBruijn64tab)], narrowed := true }
def FnExactRegionOfUptoSaid : Prop := fnExactRegionOfUptoRow.holds Tryd.pinned (OpenSpec.upto fnExactRegionOfSpec)

/-- 'laws.FnExactRegionArea', WHERE WHAT IT READS IS OF BULK AT MOST 1048576: true; the input reads as it did. -/
def fnExactRegionAreaUptoRow : OpenClaim := { program := "ytadfmflkaemmbaadoor", sum := "b2795b1358f6221f567b0a43c2454b86ade8efaa61e50873f504a6510eb2c493", func := "loop.example/g00890/laws.FnExactRegionArea", spec := "fnExactRegionArea", unfollowed := true, recurses := true, named := ["math/bits.deBruijn64tab"], apart := false, laid := [("math/bits.deBruijn64tab", laid_math_bits_deBruijn64tab)], narrowed := true }
def FnExactRegionAreaUptoSaid : Prop := fnExactRegionAreaUptoRow.holds Tryd.pinned (OpenSpec.upto fnExactRegionAreaSpec)

/-- 'laws.FnExactRegionContains', WHERE WHAT IT READS IS OF BULK AT MOST 1048576: true; the input reads as it did. -/
def fnExactRegionContainsUptoRow : OpenClaim := { program := "ytadfmflkaemmbaadoor", sum := "b2795b1358f6221f567b0a43c2454b86ade8efaa61e50873f504a6510eb2c493", func := "loop.example/g00890/laws.FnExactRegionContains", spec := "fnExactRegionContains", unfollowed := true, recurses := true, named := ["math/bits.deBruijn64tab"], apart := false, laid := [("math/bits.deBruijn64tab", laid_math_bits_deBruijn64tab)], narrowed := true }
def FnExactRegionContainsUptoSaid : Prop := fnExactRegionContainsUptoRow.holds Tryd.pinned (OpenSpec.upto fnExactRegionContainsSpec)

/-- 'laws.FnExactRegionBox', WHERE WHAT IT READS IS OF BULK AT MOST 1048576: true; the input reads as it did. -/
def fnExactRegionBoxUptoRow : OpenClaim := { program := "ytadfmflkaemmbaadoor", sum := "b2795b1358f6221f567b0a43c2454b86ade8efaa61e50873f504a6510eb2c493", func := "loop.example/g00890/laws.FnExactRegionBox", spec := "fnExactRegionBox", unfollowed := true, recurses := true, named := ["math/bits.deBruijn64tab"], apart := false, laid := [("math/bits.deBruijn64tab", laid_math_bits_deBruijn64tab)], narrowed := true }
def FnExactRegionBoxUptoSaid : Prop := fnExactRegionBoxUptoRow.holds Tryd.pinned (OpenSpec.upto fnExactRegionBoxSpec)

/-- 'laws.FnExactRegionRow', WHERE WHAT IT READS IS OF BULK AT MOST 1048576: true; the input reads as it did. -/
def fnExactRegionRowUptoRow : OpenClaim := { program := "ytadfmflkaemmbaadoor", sum := "b2795b1358f6221f567b0a43c2454b86ade8efaa61e50873f504a6510eb2c493", func := "loop.example/g00890/laws.FnExactRegionRow", spec := "fnExactRegionRow", unfollowed := true, recurses := true, named := ["math/bits.deBruijn64tab"], apart := false, laid := [("math/bits.deBruijn64tab", laid_math_bits_deBruijn64tab)], narrowed := true }
def FnExactRegionRowUptoSaid : Prop := fnExactRegionRowUptoRow.holds Tryd.pinned (OpenSpec.upto fnExactRegionRowSpec)

/-- 'laws.FnExactClipRegion', WHERE WHAT IT READS IS OF BULK AT MOST 1048576: true; the input reads as it did. -/
def fnExactClipRegionUptoRow : OpenClaim := { program := "ytadfmflkaemmbaadoor", sum := "b2795b1358f6221f567b0a43c2454b86ade8efaa61e50873f504a6510eb2c493", func := "loop.example/g00890/laws.FnExactClipRegion", spec := "fnExactClipRegion", unfollowed := true, recurses := true, named := ["math/bits.deBruijn64tab"], apart := false, laid := [("math/bits.deBruijn64tab", laid_math_bits_deBruijn64tab)], narrowed := true }
def FnExactClipRegionUptoSaid : Prop := fnExactClipRegionUptoRow.holds Tryd.pinned (OpenSpec.upto fnExactClipRegionSpec)

/-- 'laws.FnExactMoveRegion', WHERE WHAT IT READS IS OF BULK AT MOST 1048576: true; the input reads as it did. -/
def fnExactMoveRegionUptoRow : OpenClaim := { program := "ytadfmflkaemmbaadoor", sum := "b2795b1358f6221f567b0a43c2454b86ade8efaa61e50873f504a6510eb2c493", func := "loop.example/g00890/laws.FnExactMoveRegion", spec := "fnExactMoveRegion", unfollowed := true, recurses := true, named := ["math/bits.deBruijn64tab", "loop.example/g00890/impl.orientationMatrices"], apart := false, laid := [("math/bits.deBruijn64tab", laid_math_bits_deBruijn64tab), ("loop.example/g00890/impl.orientationMatrices", laid_loop_example_g00890_impl_orientationMatrices)], narrowed := true }
def FnExactMoveRegionUptoSaid : Prop := fnExactMoveRegionUptoRow.holds Tryd.pinned (OpenSpec.upto fnExactMoveRegionSpec)

end Rows
end Go.Proofs.YtadfmflkaemmbaaDoor
