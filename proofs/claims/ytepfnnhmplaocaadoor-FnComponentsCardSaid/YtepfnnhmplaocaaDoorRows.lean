/-
  NARROWER THAN 'FOR EVERY INPUT', by the rows' own cells (each row's printed sentence says how): FnExactCornerCounts: laid · FnEuler: laid · FnComponents: laid · FnHoles: laid · FnExactComponents: laid · FnExactComponentCount: laid · FnExactComponentAt: laid · FnExactIsConnected: laid · FnExactLargestComponent: laid · FnExactSelectOverlapping: laid · FnExactSelectSmall: laid · FnExactHoles: laid · FnExactFillHoles: laid.
  DERIVED. THE GIVEN ROWS OF THIS SEAT. 13 by the template 'for every input the law returns true; each argument reads behind the call as it read before'; 0 by the template 'total and deterministic' (their statements: YtepfnnhmplaocaaDoorTotals.lean).
  GIVEN WITH THE SEED: the statements are not yours to turn. If you find one false, say at which input.
  Laid BY PROGRAM, IN A SANDBOX (cutbox-rows.mjs): the forced cells as the released guide's own fill.sh prints them over the translation a83d84bc53d57473… (all of the seat's roots in one cut). By AI agents, Wed Nov 11 2026. No macro, syntax, notation, axiom, sorry.
-/
import Derived.Test.YtepfnnhmplaocaaDoorChecked
import GoSem.Claim
import GoSem.ClaimJoined
import GoSem.ClaimMapViews
import Derived.JoinedTies
import Derived.KernelRfl
namespace Go.Proofs.YtepfnnhmplaocaaDoor
/- THE CELL 'sum', in the pinned program and in every row, IS THE sha256 OF THE DUMP (.gsa) THAT YtepfnnhmplaocaaDoorProg.lean LOADS. Nothing in Lean hashes anything: it is a label: what it is worth is what the hold of that sum in a sandbox is worth. -/
noncomputable def Tryd.pinned : Pinned := { name := "ytepfnnhmplaocaadoor", sum := "a83d84bc53d57473e4eab3619283349c6eb11585ae94bf5035adb948541c0fd6", checked := Tryd.checked }
namespace Rows
def none {H : Type} : Left H := { results := [], args := [] }

/- WHAT THE LISTED PACKAGE-LEVEL VARIABLES READ AS WHEN THE CALL BEGINS. Each datum BY PROGRAM (the guide's laid-datum.mjs) off the statement by which the dump's own 'gosem.cut.vars' lays the variable. In a bare row this is a premise. The card (YtepfnnhmplaocaaDoorCards.lean) ties it to the program's text. -/
def laid_math_bits_deBruijn64tab {H : Type} : DataW H := .agg [.lit (.int .u8 0), .lit (.int .u8 1), .lit (.int .u8 56), .lit (.int .u8 2), .lit (.int .u8 57), .lit (.int .u8 49), .lit (.int .u8 28), .lit (.int .u8 3), .lit (.int .u8 61), .lit (.int .u8 58), .lit (.int .u8 42), .lit (.int .u8 50), .lit (.int .u8 38), .lit (.int .u8 29), .lit (.int .u8 17), .lit (.int .u8 4), .lit (.int .u8 62), .lit (.int .u8 47), .lit (.int .u8 59), .lit (.int .u8 36), .lit (.int .u8 45), .lit (.int .u8 43), .lit (.int .u8 51), .lit (.int .u8 22), .lit (.int .u8 53), .lit (.int .u8 39), .lit (.int .u8 33), .lit (.int .u8 30), .lit (.int .u8 24), .lit (.int .u8 18), .lit (.int .u8 12), .lit (.int .u8 5), .lit (.int .u8 63), .lit (.int .u8 55), .lit (.int .u8 48), .lit (.int .u8 27), .lit (.int .u8 60), .lit (.int .u8 41), .lit (.int .u8 37), .lit (.int .u8 16), .lit (.int .u8 46), .lit (.int .u8 35), .lit (.int .u8 44), .lit (.int .u8 21), .lit (.int .u8 52), .lit (.int .u8 32), .lit (.int .u8 23), .lit (.int .u8 11), .lit (.int .u8 54), .lit (.int .u8 26), .lit (.int .u8 40), .lit (.int .u8 15), .lit (.int .u8 34), .lit (.int .u8 20), .lit (.int .u8 31), .lit (.int .u8 10), .lit (.int .u8 25), .lit (.int .u8 14), .lit (.int .u8 19), .lit (.int .u8 9), .lit (.int .u8 13), .lit (.int .u8 8), .lit (.int .u8 7), .lit (.int .u8 6)]
def laid_loop_example_g00890_impl_chip {H : Type} : DataW H := .agg [.lit (.int .i64 (-40)), .lit (.int .i64 (-40)), .lit (.int .i64 40), .lit (.int .i64 40)]

/-- 'laws.FnExactCornerCounts': WHATEVER THE INPUT: true; the input reads as it did. -/
def fnExactCornerCountsSpec : ChangeSpec := { name := "fnExactCornerCounts", vars := ["loop.example/g00890/impl.chip"], fn := fun _ => fun
  | [d, g1] => { results := [.lit (.bool true)], args := [d], vars := [g1] }
  | _ => none }
def fnExactCornerCountsRow : OpenClaim := { program := "ytepfnnhmplaocaadoor", sum := "a83d84bc53d57473e4eab3619283349c6eb11585ae94bf5035adb948541c0fd6", func := "loop.example/g00890/laws.FnExactCornerCounts", spec := "fnExactCornerCounts", unfollowed := true, recurses := true, named := ["loop.example/g00890/impl.chip", "math/bits.deBruijn64tab"], apart := false, laid := [("math/bits.deBruijn64tab", laid_math_bits_deBruijn64tab), ("loop.example/g00890/impl.chip", laid_loop_example_g00890_impl_chip)] }
def FnExactCornerCountsSaid : Prop := fnExactCornerCountsRow.holds Tryd.pinned (OpenSpec.ofChange fnExactCornerCountsSpec)

/-- ITS FALSE NEIGHBOUR: 'it returns false'. Refute it at one input. -/
def fnExactCornerCountsWrong : ChangeSpec := { name := "fnExactCornerCounts", vars := ["loop.example/g00890/impl.chip"], fn := fun _ => fun
  | [d, g1] => { results := [.lit (.bool false)], args := [d], vars := [g1] }
  | _ => none }
def FnExactCornerCountsWrongFalsely : Prop := fnExactCornerCountsRow.holds Tryd.pinned (OpenSpec.ofChange fnExactCornerCountsWrong)

/-- 'laws.FnEuler': WHATEVER THE INPUT: true; the input reads as it did. -/
def fnEulerSpec : ChangeSpec := { name := "fnEuler", vars := ["loop.example/g00890/impl.chip"], fn := fun _ => fun
  | [d, g1] => { results := [.lit (.bool true)], args := [d], vars := [g1] }
  | _ => none }
def fnEulerRow : OpenClaim := { program := "ytepfnnhmplaocaadoor", sum := "a83d84bc53d57473e4eab3619283349c6eb11585ae94bf5035adb948541c0fd6", func := "loop.example/g00890/laws.FnEuler", spec := "fnEuler", unfollowed := true, recurses := true, named := ["loop.example/g00890/impl.chip", "math/bits.deBruijn64tab"], apart := false, laid := [("math/bits.deBruijn64tab", laid_math_bits_deBruijn64tab), ("loop.example/g00890/impl.chip", laid_loop_example_g00890_impl_chip)] }
def FnEulerSaid : Prop := fnEulerRow.holds Tryd.pinned (OpenSpec.ofChange fnEulerSpec)

/-- ITS FALSE NEIGHBOUR: 'it returns false'. Refute it at one input. -/
def fnEulerWrong : ChangeSpec := { name := "fnEuler", vars := ["loop.example/g00890/impl.chip"], fn := fun _ => fun
  | [d, g1] => { results := [.lit (.bool false)], args := [d], vars := [g1] }
  | _ => none }
def FnEulerWrongFalsely : Prop := fnEulerRow.holds Tryd.pinned (OpenSpec.ofChange fnEulerWrong)

/-- 'laws.FnComponents': WHATEVER THE INPUT: true; the input reads as it did. -/
def fnComponentsSpec : ChangeSpec := { name := "fnComponents", vars := ["loop.example/g00890/impl.chip"], fn := fun _ => fun
  | [d, g1] => { results := [.lit (.bool true)], args := [d], vars := [g1] }
  | _ => none }
def fnComponentsRow : OpenClaim := { program := "ytepfnnhmplaocaadoor", sum := "a83d84bc53d57473e4eab3619283349c6eb11585ae94bf5035adb948541c0fd6", func := "loop.example/g00890/laws.FnComponents", spec := "fnComponents", unfollowed := true, recurses := true, named := ["loop.example/g00890/impl.chip", "math/bits.deBruijn64tab"], apart := false, laid := [("math/bits.deBruijn64tab", laid_math_bits_deBruijn64tab), ("loop.example/g00890/impl.chip", laid_loop_example_g00890_impl_chip)] }
def FnComponentsSaid : Prop := fnComponentsRow.holds Tryd.pinned (OpenSpec.ofChange fnComponentsSpec)

/-- ITS FALSE NEIGHBOUR: 'it returns false'. Refute it at one input. -/
def fnComponentsWrong : ChangeSpec := { name := "fnComponents", vars := ["loop.example/g00890/impl.chip"], fn := fun _ => fun
  | [d, g1] => { results := [.lit (.bool false)], args := [d], vars := [g1] }
  | _ => none }
def FnComponentsWrongFalsely : Prop := fnComponentsRow.holds Tryd.pinned (OpenSpec.ofChange fnComponentsWrong)

/-- 'laws.FnHoles': WHATEVER THE INPUT: true; the input reads as it did. -/
def fnHolesSpec : ChangeSpec := { name := "fnHoles", vars := ["loop.example/g00890/impl.chip"], fn := fun _ => fun
  | [d, g1] => { results := [.lit (.bool true)], args := [d], vars := [g1] }
  | _ => none }
def fnHolesRow : OpenClaim := { program := "ytepfnnhmplaocaadoor", sum := "a83d84bc53d57473e4eab3619283349c6eb11585ae94bf5035adb948541c0fd6", func := "loop.example/g00890/laws.FnHoles", spec := "fnHoles", unfollowed := true, recurses := true, named := ["loop.example/g00890/impl.chip", "math/bits.deBruijn64tab"], apart := false, laid := [("math/bits.deBruijn64tab", laid_math_bits_deBruijn64tab), ("loop.example/g00890/impl.chip", laid_loop_example_g00890_impl_chip)] }
def FnHolesSaid : Prop := fnHolesRow.holds Tryd.pinned (OpenSpec.ofChange fnHolesSpec)

/-- ITS FALSE NEIGHBOUR: 'it returns false'. Refute it at one input. -/
def fnHolesWrong : ChangeSpec := { name := "fnHoles", vars := ["loop.example/g00890/impl.chip"], fn := fun _ => fun
  | [d, g1] => { results := [.lit (.bool false)], args := [d], vars := [g1] }
  | _ => none }
def FnHolesWrongFalsely : Prop := fnHolesRow.holds Tryd.pinned (OpenSpec.ofChange fnHolesWrong)

/-- 'laws.FnExactComponents': WHATEVER THE INPUT: true; the input reads as it did. -/
def fnExactComponentsSpec : ChangeSpec := { name := "fnExactComponents", vars := ["loop.example/g00890/impl.chip"], fn := fun _ => fun
  | [d, g1] => { results := [.lit (.bool true)], args := [d], vars := [g1] }
  | _ => none }
def fnExactComponentsRow : OpenClaim := { program := "ytepfnnhmplaocaadoor", sum := "a83d84bc53d57473e4eab3619283349c6eb11585ae94bf5035adb948541c0fd6", func := "loop.example/g00890/laws.FnExactComponents", spec := "fnExactComponents", unfollowed := true, recurses := true, named := ["loop.example/g00890/impl.chip", "math/bits.deBruijn64tab"], apart := false, laid := [("math/bits.deBruijn64tab", laid_math_bits_deBruijn64tab), ("loop.example/g00890/impl.chip", laid_loop_example_g00890_impl_chip)] }
def FnExactComponentsSaid : Prop := fnExactComponentsRow.holds Tryd.pinned (OpenSpec.ofChange fnExactComponentsSpec)

/-- ITS FALSE NEIGHBOUR: 'it returns false'. Refute it at one input. -/
def fnExactComponentsWrong : ChangeSpec := { name := "fnExactComponents", vars := ["loop.example/g00890/impl.chip"], fn := fun _ => fun
  | [d, g1] => { results := [.lit (.bool false)], args := [d], vars := [g1] }
  | _ => none }
def FnExactComponentsWrongFalsely : Prop := fnExactComponentsRow.holds Tryd.pinned (OpenSpec.ofChange fnExactComponentsWrong)

/-- 'laws.FnExactComponentCount': WHATEVER THE INPUT: true; the input reads as it did. -/
def fnExactComponentCountSpec : ChangeSpec := { name := "fnExactComponentCount", vars := ["loop.example/g00890/impl.chip"], fn := fun _ => fun
  | [d, g1] => { results := [.lit (.bool true)], args := [d], vars := [g1] }
  | _ => none }
def fnExactComponentCountRow : OpenClaim := { program := "ytepfnnhmplaocaadoor", sum := "a83d84bc53d57473e4eab3619283349c6eb11585ae94bf5035adb948541c0fd6", func := "loop.example/g00890/laws.FnExactComponentCount", spec := "fnExactComponentCount", unfollowed := true, recurses := true, named := ["loop.example/g00890/impl.chip", "math/bits.deBruijn64tab"], apart := false, laid := [("math/bits.deBruijn64tab", laid_math_bits_deBruijn64tab), ("loop.example/g00890/impl.chip", laid_loop_example_g00890_impl_chip)] }
def FnExactComponentCountSaid : Prop := fnExactComponentCountRow.holds Tryd.pinned (OpenSpec.ofChange fnExactComponentCountSpec)

/-- ITS FALSE NEIGHBOUR: 'it returns false'. Refute it at one input. -/
def fnExactComponentCountWrong : ChangeSpec := { name := "fnExactComponentCount", vars := ["loop.example/g00890/impl.chip"], fn := fun _ => fun
  | [d, g1] => { results := [.lit (.bool false)], args := [d], vars := [g1] }
  | _ => none }
def FnExactComponentCountWrongFalsely : Prop := fnExactComponentCountRow.holds Tryd.pinned (OpenSpec.ofChange fnExactComponentCountWrong)

/-- 'laws.FnExactComponentAt': WHATEVER THE INPUT: true; the input reads as it did. -/
def fnExactComponentAtSpec : ChangeSpec := { name := "fnExactComponentAt", vars := ["loop.example/g00890/impl.chip"], fn := fun _ => fun
  | [d1, d2, d3, g1] => { results := [.lit (.bool true)], args := [d1, d2, d3], vars := [g1] }
  | _ => none }
def fnExactComponentAtRow : OpenClaim := { program := "ytepfnnhmplaocaadoor", sum := "a83d84bc53d57473e4eab3619283349c6eb11585ae94bf5035adb948541c0fd6", func := "loop.example/g00890/laws.FnExactComponentAt", spec := "fnExactComponentAt", unfollowed := true, recurses := true, named := ["loop.example/g00890/impl.chip", "math/bits.deBruijn64tab"], apart := false, laid := [("math/bits.deBruijn64tab", laid_math_bits_deBruijn64tab), ("loop.example/g00890/impl.chip", laid_loop_example_g00890_impl_chip)] }
def FnExactComponentAtSaid : Prop := fnExactComponentAtRow.holds Tryd.pinned (OpenSpec.ofChange fnExactComponentAtSpec)

/-- ITS FALSE NEIGHBOUR: 'it returns false'. Refute it at one input. -/
def fnExactComponentAtWrong : ChangeSpec := { name := "fnExactComponentAt", vars := ["loop.example/g00890/impl.chip"], fn := fun _ => fun
  | [d1, d2, d3, g1] => { results := [.lit (.bool false)], args := [d1, d2, d3], vars := [g1] }
  | _ => none }
def FnExactComponentAtWrongFalsely : Prop := fnExactComponentAtRow.holds Tryd.pinned (OpenSpec.ofChange fnExactComponentAtWrong)

/-- 'laws.FnExactIsConnected': WHATEVER THE INPUT: true; the input reads as it did. -/
def fnExactIsConnectedSpec : ChangeSpec := { name := "fnExactIsConnected", vars := ["loop.example/g00890/impl.chip"], fn := fun _ => fun
  | [d, g1] => { results := [.lit (.bool true)], args := [d], vars := [g1] }
  | _ => none }
def fnExactIsConnectedRow : OpenClaim := { program := "ytepfnnhmplaocaadoor", sum := "a83d84bc53d57473e4eab3619283349c6eb11585ae94bf5035adb948541c0fd6", func := "loop.example/g00890/laws.FnExactIsConnected", spec := "fnExactIsConnected", unfollowed := true, recurses := true, named := ["loop.example/g00890/impl.chip", "math/bits.deBruijn64tab"], apart := false, laid := [("math/bits.deBruijn64tab", laid_math_bits_deBruijn64tab), ("loop.example/g00890/impl.chip", laid_loop_example_g00890_impl_chip)] }
def FnExactIsConnectedSaid : Prop := fnExactIsConnectedRow.holds Tryd.pinned (OpenSpec.ofChange fnExactIsConnectedSpec)

/-- ITS FALSE NEIGHBOUR: 'it returns false'. Refute it at one input. -/
def fnExactIsConnectedWrong : ChangeSpec := { name := "fnExactIsConnected", vars := ["loop.example/g00890/impl.chip"], fn := fun _ => fun
  | [d, g1] => { results := [.lit (.bool false)], args := [d], vars := [g1] }
  | _ => none }
def FnExactIsConnectedWrongFalsely : Prop := fnExactIsConnectedRow.holds Tryd.pinned (OpenSpec.ofChange fnExactIsConnectedWrong)

/-- 'laws.FnExactLargestComponent': WHATEVER THE INPUT: true; the input reads as it did. -/
def fnExactLargestComponentSpec : ChangeSpec := { name := "fnExactLargestComponent", vars := ["loop.example/g00890/impl.chip"], fn := fun _ => fun
  | [d, g1] => { results := [.lit (.bool true)], args := [d], vars := [g1] }
  | _ => none }
def fnExactLargestComponentRow : OpenClaim := { program := "ytepfnnhmplaocaadoor", sum := "a83d84bc53d57473e4eab3619283349c6eb11585ae94bf5035adb948541c0fd6", func := "loop.example/g00890/laws.FnExactLargestComponent", spec := "fnExactLargestComponent", unfollowed := true, recurses := true, named := ["loop.example/g00890/impl.chip", "math/bits.deBruijn64tab"], apart := false, laid := [("math/bits.deBruijn64tab", laid_math_bits_deBruijn64tab), ("loop.example/g00890/impl.chip", laid_loop_example_g00890_impl_chip)] }
def FnExactLargestComponentSaid : Prop := fnExactLargestComponentRow.holds Tryd.pinned (OpenSpec.ofChange fnExactLargestComponentSpec)

/-- ITS FALSE NEIGHBOUR: 'it returns false'. Refute it at one input. -/
def fnExactLargestComponentWrong : ChangeSpec := { name := "fnExactLargestComponent", vars := ["loop.example/g00890/impl.chip"], fn := fun _ => fun
  | [d, g1] => { results := [.lit (.bool false)], args := [d], vars := [g1] }
  | _ => none }
def FnExactLargestComponentWrongFalsely : Prop := fnExactLargestComponentRow.holds Tryd.pinned (OpenSpec.ofChange fnExactLargestComponentWrong)

/-- 'laws.FnExactSelectOverlapping': WHATEVER THE INPUT: true; the input reads as it did. -/
def fnExactSelectOverlappingSpec : ChangeSpec := { name := "fnExactSelectOverlapping", vars := ["loop.example/g00890/impl.chip"], fn := fun _ => fun
  | [d1, d2, g1] => { results := [.lit (.bool true)], args := [d1, d2], vars := [g1] }
  | _ => none }
def fnExactSelectOverlappingRow : OpenClaim := { program := "ytepfnnhmplaocaadoor", sum := "a83d84bc53d57473e4eab3619283349c6eb11585ae94bf5035adb948541c0fd6", func := "loop.example/g00890/laws.FnExactSelectOverlapping", spec := "fnExactSelectOverlapping", unfollowed := true, recurses := true, named := ["loop.example/g00890/impl.chip", "math/bits.deBruijn64tab"], apart := false, laid := [("math/bits.deBruijn64tab", laid_math_bits_deBruijn64tab), ("loop.example/g00890/impl.chip", laid_loop_example_g00890_impl_chip)] }
def FnExactSelectOverlappingSaid : Prop := fnExactSelectOverlappingRow.holds Tryd.pinned (OpenSpec.ofChange fnExactSelectOverlappingSpec)

/-- ITS FALSE NEIGHBOUR: 'it returns false'. Refute it at one input. -/
def fnExactSelectOverlappingWrong : ChangeSpec := { name := "fnExactSelectOverlapping", vars := ["loop.example/g00890/impl.chip"], fn := fun _ => fun
  | [d1, d2, g1] => { results := [.lit (.bool false)], args := [d1, d2], vars := [g1] }
  | _ => none }
def FnExactSelectOverlappingWrongFalsely : Prop := fnExactSelectOverlappingRow.holds Tryd.pinned (OpenSpec.ofChange fnExactSelectOverlappingWrong)

/-- 'laws.FnExactSelectSmall': WHATEVER THE INPUT: true; the input reads as it did. -/
def fnExactSelectSmallSpec : ChangeSpec := { name := "fnExactSelectSmall", vars := ["loop.example/g00890/impl.chip"], fn := fun _ => fun
  | [d1, d2, g1] => { results := [.lit (.bool true)], args := [d1, d2], vars := [g1] }
  | _ => none }
def fnExactSelectSmallRow : OpenClaim := { program := "ytepfnnhmplaocaadoor", sum := "a83d84bc53d57473e4eab3619283349c6eb11585ae94bf5035adb948541c0fd6", func := "loop.example/g00890/laws.FnExactSelectSmall", spec := "fnExactSelectSmall", unfollowed := true, recurses := true, named := ["loop.example/g00890/impl.chip", "math/bits.deBruijn64tab"], apart := false, laid := [("math/bits.deBruijn64tab", laid_math_bits_deBruijn64tab), ("loop.example/g00890/impl.chip", laid_loop_example_g00890_impl_chip)] }
def FnExactSelectSmallSaid : Prop := fnExactSelectSmallRow.holds Tryd.pinned (OpenSpec.ofChange fnExactSelectSmallSpec)

/-- ITS FALSE NEIGHBOUR: 'it returns false'. Refute it at one input. -/
def fnExactSelectSmallWrong : ChangeSpec := { name := "fnExactSelectSmall", vars := ["loop.example/g00890/impl.chip"], fn := fun _ => fun
  | [d1, d2, g1] => { results := [.lit (.bool false)], args := [d1, d2], vars := [g1] }
  | _ => none }
def FnExactSelectSmallWrongFalsely : Prop := fnExactSelectSmallRow.holds Tryd.pinned (OpenSpec.ofChange fnExactSelectSmallWrong)

/-- 'laws.FnExactHoles': WHATEVER THE INPUT: true; the input reads as it did. -/
def fnExactHolesSpec : ChangeSpec := { name := "fnExactHoles", vars := ["loop.example/g00890/impl.chip"], fn := fun _ => fun
  | [d, g1] => { results := [.lit (.bool true)], args := [d], vars := [g1] }
  | _ => none }
def fnExactHolesRow : OpenClaim := { program := "ytepfnnhmplaocaadoor", sum := "a83d84bc53d57473e4eab3619283349c6eb11585ae94bf5035adb948541c0fd6", func := "loop.example/g00890/laws.FnExactHoles", spec := "fnExactHoles", unfollowed := true, recurses := true, named := ["loop.example/g00890/impl.chip", "math/bits.deBruijn64tab"], apart := false, laid := [("math/bits.deBruijn64tab", laid_math_bits_deBruijn64tab), ("loop.example/g00890/impl.chip", laid_loop_example_g00890_impl_chip)] }
def FnExactHolesSaid : Prop := fnExactHolesRow.holds Tryd.pinned (OpenSpec.ofChange fnExactHolesSpec)

/-- ITS FALSE NEIGHBOUR: 'it returns false'. Refute it at one input. -/
def fnExactHolesWrong : ChangeSpec := { name := "fnExactHoles", vars := ["loop.example/g00890/impl.chip"], fn := fun _ => fun
  | [d, g1] => { results := [.lit (.bool false)], args := [d], vars := [g1] }
  | _ => none }
def FnExactHolesWrongFalsely : Prop := fnExactHolesRow.holds Tryd.pinned (OpenSpec.ofChange fnExactHolesWrong)

/-- 'laws.FnExactFillHoles': WHATEVER THE INPUT: true; the input reads as it did. -/
def fnExactFillHolesSpec : ChangeSpec := { name := "fnExactFillHoles", vars := ["loop.example/g00890/impl.chip"], fn := fun _ => fun
  | [d, g1] => { results := [.lit (.bool true)], args := [d], vars := [g1] }
  | _ => none }
def fnExactFillHolesRow : OpenClaim := { program := "ytepfnnhmplaocaadoor", sum := "a83d84bc53d57473e4eab3619283349c6eb11585ae94bf5035adb948541c0fd6", func := "loop.example/g00890/laws.FnExactFillHoles", spec := "fnExactFillHoles", unfollowed := true, recurses := true, named := ["loop.example/g00890/impl.chip", "math/bits.deBruijn64tab"], apart := false, laid := [("math/bits.deBruijn64tab", laid_math_bits_deBruijn64tab), ("loop.example/g00890/impl.chip", laid_loop_example_g00890_impl_chip)] }
def FnExactFillHolesSaid : Prop := fnExactFillHolesRow.holds Tryd.pinned (OpenSpec.ofChange fnExactFillHolesSpec)

/-- ITS FALSE NEIGHBOUR: 'it returns false'. Refute it at one input. -/
def fnExactFillHolesWrong : ChangeSpec := { name := "fnExactFillHoles", vars := ["loop.example/g00890/impl.chip"], fn := fun _ => fun
  | [d, g1] => { results := [.lit (.bool false)], args := [d], vars := [g1] }
  | _ => none }
def FnExactFillHolesWrongFalsely : Prop := fnExactFillHolesRow.holds Tryd.pinned (OpenSpec.ofChange fnExactFillHolesWrong)

/- THE SECOND FORM. 'bulk': how many values and letters a reading holds, each counted each time it is reached (what is shared counts as often as it is met; a slice's spare places count too). A statement '..UptoSaid' is the law's where the arguments, and the package variables that the reading takes, are together of bulk at most 1048576: NARROWER than '..Said'. Prove '..Said' where nothing that the law and all that it calls make is longer than what came in: it says more and counts as full. Else prove '..UptoSaid'. A law counts once. -/
mutual
def uptoBulk {H : Type} : DataW H → Nat
  | .lit (.string bytes) => bytes.length + 1
  | .lit _ => 1
  | .nil => 1
  | .ptr d => uptoBulk d + 1
  | .slice elems spare => uptoBulkAll elems + uptoBulkAll spare + 1
  | .agg parts => uptoBulkAll parts + 1
  | .iface _ d => uptoBulk d + 1
  | .map entries => uptoBulkEntries entries + 1
  | .held _ => 1
def uptoBulkAll {H : Type} : List (DataW H) → Nat
  | [] => 0
  | d :: r => uptoBulk d + uptoBulkAll r
def uptoBulkEntries {H : Type} : List (Lit × DataW H) → Nat
  | [] => 0
  | x :: r => uptoBulkEntry x + uptoBulkEntries r
def uptoBulkEntry {H : Type} : Lit × DataW H → Nat
  | (.string bytes, d) => bytes.length + uptoBulk d + 1
  | (_, d) => uptoBulk d + 1
 end
def uptoSmall : (H : Type) → List (DataW H) → Bool := fun _ ds => decide (uptoBulkAll ds ≤ 1048576)
def OpenSpec.upto (s : _root_.Go.ChangeSpec) : _root_.Go.OpenSpec := { _root_.Go.OpenSpec.ofChange s with cond := some uptoSmall }

/-- 'laws.FnExactCornerCounts', WHERE WHAT IT READS IS OF BULK AT MOST 1048576: true; the input reads as it did. -/
def fnExactCornerCountsUptoRow : OpenClaim := { program := "ytepfnnhmplaocaadoor", sum := "a83d84bc53d57473e4eab3619283349c6eb11585ae94bf5035adb948541c0fd6", func := "loop.example/g00890/laws.FnExactCornerCounts", spec := "fnExactCornerCounts", unfollowed := true, recurses := true, named := ["loop.example/g00890/impl.chip", "math/bits.deBruijn64tab"], apart := false, laid := [("math/bits.deBruijn64tab", laid_math_bits_deBruijn64tab), ("loop.example/g00890/impl.chip", laid_loop_example_g00890_impl_chip)], narrowed := true }
def FnExactCornerCountsUptoSaid : Prop := fnExactCornerCountsUptoRow.holds Tryd.pinned (OpenSpec.upto fnExactCornerCountsSpec)

/-- 'laws.FnEuler', WHERE WHAT IT READS IS OF BULK AT MOST 1048576: true; the input reads as it did. -/
def fnEulerUptoRow : OpenClaim := { program := "ytepfnnhmplaocaadoor", sum := "a83d84bc53d57473e4eab3619283349c6eb11585ae94bf5035adb948541c0fd6", func := "loop.example/g00890/laws.FnEuler", spec := "fnEuler", unfollowed := true, recurses := true, named := ["loop.example/g00890/impl.chip", "math/bits.deBruijn64tab"], apart := false, laid := [("math/bits.deBruijn64tab", laid_math_bits_deBruijn64tab), ("loop.example/g00890/impl.chip", laid_loop_example_g00890_impl_chip)], narrowed := true }
def FnEulerUptoSaid : Prop := fnEulerUptoRow.holds Tryd.pinned (OpenSpec.upto fnEulerSpec)

/-- 'laws.FnComponents', WHERE WHAT IT READS IS OF BULK AT MOST 1048576: true; the input reads as it did. -/
def fnComponentsUptoRow : OpenClaim := { program := "ytepfnnhmplaocaadoor", sum := "a83d84bc53d57473e4eab3619283349c6eb11585ae94bf5035adb948541c0fd6", func := "loop.example/g00890/laws.FnComponents", spec := "fnComponents", unfollowed := true, recurses := true, named := ["loop.example/g00890/impl.chip", "math/bits.deBruijn64tab"], apart := false, laid := [("math/bits.deBruijn64tab", laid_math_bits_deBruijn64tab), ("loop.example/g00890/impl.chip", laid_loop_example_g00890_impl_chip)], narrowed := true }
def FnComponentsUptoSaid : Prop := fnComponentsUptoRow.holds Tryd.pinned (OpenSpec.upto fnComponentsSpec)

/-- 'laws.FnHoles', WHERE WHAT IT READS IS OF BULK AT MOST 1048576: true; the input reads as it did. -/
def fnHolesUptoRow : OpenClaim := { program := "ytepfnnhmplaocaadoor", sum := "a83d84bc53d57473e4eab3619283349c6eb11585ae94bf5035adb948541c0fd6", func := "loop.example/g00890/laws.FnHoles", spec := "fnHoles", unfollowed := true, recurses := true, named := ["loop.example/g00890/impl.chip", "math/bits.deBruijn64tab"], apart := false, laid := [("math/bits.deBruijn64tab", laid_math_bits_deBruijn64tab), ("loop.example/g00890/impl.chip", laid_loop_example_g00890_impl_chip)], narrowed := true }
def FnHolesUptoSaid : Prop := fnHolesUptoRow.holds Tryd.pinned (OpenSpec.upto fnHolesSpec)

/-- 'laws.FnExactComponents', WHERE WHAT IT READS IS OF BULK AT MOST 1048576: true; the input reads as it did. -/
def fnExactComponentsUptoRow : OpenClaim := { program := "ytepfnnhmplaocaadoor", sum := "a83d84bc53d57473e4eab3619283349c6eb11585ae94bf5035adb948541c0fd6", func := "loop.example/g00890/laws.FnExactComponents", spec := "fnExactComponents", unfollowed := true, recurses := true, named := ["loop.example/g00890/impl.chip", "math/bits.deBruijn64tab"], apart := false, laid := [("math/bits.deBruijn64tab", laid_math_bits_deBruijn64tab), ("loop.example/g00890/impl.chip", laid_loop_example_g00890_impl_chip)], narrowed := true }
def FnExactComponentsUptoSaid : Prop := fnExactComponentsUptoRow.holds Tryd.pinned (OpenSpec.upto fnExactComponentsSpec)

/-- 'laws.FnExactComponentCount', WHERE WHAT IT READS IS OF BULK AT MOST 1048576: true; the input reads as it did. -/
def fnExactComponentCountUptoRow : OpenClaim := { program := "ytepfnnhmplaocaadoor", sum := "a83d84bc53d57473e4eab3619283349c6eb11585ae94bf5035adb948541c0fd6", func := "loop.example/g00890/laws.FnExactComponentCount", spec := "fnExactComponentCount", unfollowed := true, recurses := true, named := ["loop.example/g00890/impl.chip", "math/bits.deBruijn64tab"], apart := false, laid := [("math/bits.deBruijn64tab", laid_math_bits_deBruijn64tab), ("loop.example/g00890/impl.chip", laid_loop_example_g00890_impl_chip)], narrowed := true }
def FnExactComponentCountUptoSaid : Prop := fnExactComponentCountUptoRow.holds Tryd.pinned (OpenSpec.upto fnExactComponentCountSpec)

/-- 'laws.FnExactComponentAt', WHERE WHAT IT READS IS OF BULK AT MOST 1048576: true; the input reads as it did. -/
def fnExactComponentAtUptoRow : OpenClaim := { program := "ytepfnnhmplaocaadoor", sum := "a83d84bc53d57473e4eab3619283349c6eb11585ae94bf5035adb948541c0fd6", func := "loop.example/g00890/laws.FnExactComponentAt", spec := "fnExactComponentAt", unfollowed := true, recurses := true, named := ["loop.example/g00890/impl.chip", "math/bits.deBruijn64tab"], apart := false, laid := [("math/bits.deBruijn64tab", laid_math_bits_deBruijn64tab), ("loop.example/g00890/impl.chip", laid_loop_example_g00890_impl_chip)], narrowed := true }
def FnExactComponentAtUptoSaid : Prop := fnExactComponentAtUptoRow.holds Tryd.pinned (OpenSpec.upto fnExactComponentAtSpec)

/-- 'laws.FnExactIsConnected', WHERE WHAT IT READS IS OF BULK AT MOST 1048576: true; the input reads as it did. -/
def fnExactIsConnectedUptoRow : OpenClaim := { program := "ytepfnnhmplaocaadoor", sum := "a83d84bc53d57473e4eab3619283349c6eb11585ae94bf5035adb948541c0fd6", func := "loop.example/g00890/laws.FnExactIsConnected", spec := "fnExactIsConnected", unfollowed := true, recurses := true, named := ["loop.example/g00890/impl.chip", "math/bits.deBruijn64tab"], apart := false, laid := [("math/bits.deBruijn64tab", laid_math_bits_deBruijn64tab), ("loop.example/g00890/impl.chip", laid_loop_example_g00890_impl_chip)], narrowed := true }
def FnExactIsConnectedUptoSaid : Prop := fnExactIsConnectedUptoRow.holds Tryd.pinned (OpenSpec.upto fnExactIsConnectedSpec)

/-- 'laws.FnExactLargestComponent', WHERE WHAT IT READS IS OF BULK AT MOST 1048576: true; the input reads as it did. -/
def fnExactLargestComponentUptoRow : OpenClaim := { program := "ytepfnnhmplaocaadoor", sum := "a83d84bc53d57473e4eab3619283349c6eb11585ae94bf5035adb948541c0fd6", func := "loop.example/g00890/laws.FnExactLargestComponent", spec := "fnExactLargestComponent", unfollowed := true, recurses := true, named := ["loop.example/g00890/impl.chip", "math/bits.deBruijn64tab"], apart := false, laid := [("math/bits.deBruijn64tab", laid_math_bits_deBruijn64tab), ("loop.example/g00890/impl.chip", laid_loop_example_g00890_impl_chip)], narrowed := true }
def FnExactLargestComponentUptoSaid : Prop := fnExactLargestComponentUptoRow.holds Tryd.pinned (OpenSpec.upto fnExactLargestComponentSpec)

/-- 'laws.FnExactSelectOverlapping', WHERE WHAT IT READS IS OF BULK AT MOST 1048576: true; the input reads as it did. -/
def fnExactSelectOverlappingUptoRow : OpenClaim := { program := "ytepfnnhmplaocaadoor", sum := "a83d84bc53d57473e4eab3619283349c6eb11585ae94bf5035adb948541c0fd6", func := "loop.example/g00890/laws.FnExactSelectOverlapping", spec := "fnExactSelectOverlapping", unfollowed := true, recurses := true, named := ["loop.example/g00890/impl.chip", "math/bits.deBruijn64tab"], apart := false, laid := [("math/bits.deBruijn64tab", laid_math_bits_deBruijn64tab), ("loop.example/g00890/impl.chip", laid_loop_example_g00890_impl_chip)], narrowed := true }
def FnExactSelectOverlappingUptoSaid : Prop := fnExactSelectOverlappingUptoRow.holds Tryd.pinned (OpenSpec.upto fnExactSelectOverlappingSpec)

/-- 'laws.FnExactSelectSmall', WHERE WHAT IT READS IS OF BULK AT MOST 1048576: true; the input reads as it did. -/
def fnExactSelectSmallUptoRow : OpenClaim := { program := "ytepfnnhmplaocaadoor", sum := "a83d84bc53d57473e4eab3619283349c6eb11585ae94bf5035adb948541c0fd6", func := "loop.example/g00890/laws.FnExactSelectSmall", spec := "fnExactSelectSmall", unfollowed := true, recurses := true, named := ["loop.example/g00890/impl.chip", "math/bits.deBruijn64tab"], apart := false, laid := [("math/bits.deBruijn64tab", laid_math_bits_deBruijn64tab), ("loop.example/g00890/impl.chip", laid_loop_example_g00890_impl_chip)], narrowed := true }
def FnExactSelectSmallUptoSaid : Prop := fnExactSelectSmallUptoRow.holds Tryd.pinned (OpenSpec.upto fnExactSelectSmallSpec)

/-- 'laws.FnExactHoles', WHERE WHAT IT READS IS OF BULK AT MOST 1048576: true; the input reads as it did. -/
def fnExactHolesUptoRow : OpenClaim := { program := "ytepfnnhmplaocaadoor", sum := "a83d84bc53d57473e4eab3619283349c6eb11585ae94bf5035adb948541c0fd6", func := "loop.example/g00890/laws.FnExactHoles", spec := "fnExactHoles", unfollowed := true, recurses := true, named := ["loop.example/g00890/impl.chip", "math/bits.deBruijn64tab"], apart := false, laid := [("math/bits.deBruijn64tab", laid_math_bits_deBruijn64tab), ("loop.example/g00890/impl.chip", laid_loop_example_g00890_impl_chip)], narrowed := true }
def FnExactHolesUptoSaid : Prop := fnExactHolesUptoRow.holds Tryd.pinned (OpenSpec.upto fnExactHolesSpec)

/-- 'laws.FnExactFillHoles', WHERE WHAT IT READS IS OF BULK AT MOST 1048576: true; the input reads as it did. -/
def fnExactFillHolesUptoRow : OpenClaim := { program := "ytepfnnhmplaocaadoor", sum := "a83d84bc53d57473e4eab3619283349c6eb11585ae94bf5035adb948541c0fd6", func := "loop.example/g00890/laws.FnExactFillHoles", spec := "fnExactFillHoles", unfollowed := true, recurses := true, named := ["loop.example/g00890/impl.chip", "math/bits.deBruijn64tab"], apart := false, laid := [("math/bits.deBruijn64tab", laid_math_bits_deBruijn64tab), ("loop.example/g00890/impl.chip", laid_loop_example_g00890_impl_chip)], narrowed := true }
def FnExactFillHolesUptoSaid : Prop := fnExactFillHolesUptoRow.holds Tryd.pinned (OpenSpec.upto fnExactFillHolesSpec)

end Rows
end Go.Proofs.YtepfnnhmplaocaaDoor
