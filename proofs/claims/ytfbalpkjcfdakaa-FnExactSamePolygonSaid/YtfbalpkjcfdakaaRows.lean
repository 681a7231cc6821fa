/-
  No cell of these rows narrows 'for every input' (looked for: loops, veiled, ifaces, maps, wideKeys, modest, calm, conditions, laid).
  DERIVED. THE GIVEN ROWS OF THIS SEAT. 3 by the template 'for every input the law returns true; each argument reads behind the call as it read before'; 0 by the template 'total and deterministic' (their statements: YtfbalpkjcfdakaaTotals.lean).
  GIVEN WITH THE SEED: the statements are not yours to turn. If you find one false, say at which input.
  Laid BY PROGRAM, IN A SANDBOX (cutbox-rows.mjs): the forced cells as the released guide's own fill.sh prints them over the translation e6988ba81f9bfd30… (all of the seat's roots in one cut). By AI agents, Wed Nov 11 2026. No macro, syntax, notation, axiom, sorry.
-/
import Derived.Test.YtfbalpkjcfdakaaChecked
import GoSem.Claim
import GoSem.ClaimJoined
import GoSem.ClaimMapViews
import Derived.JoinedTies
import Derived.KernelRfl
namespace Go.Proofs.Ytfbalpkjcfdakaa
/- THE CELL 'sum', in the pinned program and in every row, IS THE sha256 OF THE DUMP (.gsa) THAT YtfbalpkjcfdakaaProg.lean LOADS. Nothing in Lean hashes anything: it is a label: what it is worth is what the hold of that sum in a sandbox is worth. -/
noncomputable def Try.pinned : Pinned := { name := "ytfbalpkjcfdakaa", sum := "e6988ba81f9bfd3030b300937d55534fc0de51600ca8456e95c305e8a3e1bc38", checked := Try.checked }
namespace Rows
def none {H : Type} : Left H := { results := [], args := [] }

/-- 'laws.FnExactIsValidPolygon': WHATEVER THE INPUT: true; the input reads as it did. -/
def fnExactIsValidPolygonSpec : ChangeSpec := { name := "fnExactIsValidPolygon", fn := fun _ => fun
  | [d] => { results := [.lit (.bool true)], args := [d] }
  | _ => none }
def fnExactIsValidPolygonRow : OpenClaim := { program := "ytfbalpkjcfdakaa", sum := "e6988ba81f9bfd3030b300937d55534fc0de51600ca8456e95c305e8a3e1bc38", func := "loop.example/g00890/laws.FnExactIsValidPolygon", spec := "fnExactIsValidPolygon", apart := false }
def FnExactIsValidPolygonSaid : Prop := fnExactIsValidPolygonRow.holds Try.pinned (OpenSpec.ofChange fnExactIsValidPolygonSpec)

/-- ITS FALSE NEIGHBOUR: 'it returns false'. Refute it at one input. -/
def fnExactIsValidPolygonWrong : ChangeSpec := { name := "fnExactIsValidPolygon", fn := fun _ => fun
  | [d] => { results := [.lit (.bool false)], args := [d] }
  | _ => none }
def FnExactIsValidPolygonWrongFalsely : Prop := fnExactIsValidPolygonRow.holds Try.pinned (OpenSpec.ofChange fnExactIsValidPolygonWrong)

/-- 'laws.FnExactSignedArea': WHATEVER THE INPUT: true; the input reads as it did. -/
def fnExactSignedAreaSpec : ChangeSpec := { name := "fnExactSignedArea", fn := fun _ => fun
  | [d] => { results := [.lit (.bool true)], args := [d] }
  | _ => none }
def fnExactSignedAreaRow : OpenClaim := { program := "ytfbalpkjcfdakaa", sum := "e6988ba81f9bfd3030b300937d55534fc0de51600ca8456e95c305e8a3e1bc38", func := "loop.example/g00890/laws.FnExactSignedArea", spec := "fnExactSignedArea", apart := false }
def FnExactSignedAreaSaid : Prop := fnExactSignedAreaRow.holds Try.pinned (OpenSpec.ofChange fnExactSignedAreaSpec)

/-- ITS FALSE NEIGHBOUR: 'it returns false'. Refute it at one input. -/
def fnExactSignedAreaWrong : ChangeSpec := { name := "fnExactSignedArea", fn := fun _ => fun
  | [d] => { results := [.lit (.bool false)], args := [d] }
  | _ => none }
def FnExactSignedAreaWrongFalsely : Prop := fnExactSignedAreaRow.holds Try.pinned (OpenSpec.ofChange fnExactSignedAreaWrong)

/-- 'laws.FnExactSamePolygon': WHATEVER THE INPUT: true; the input reads as it did. -/
def fnExactSamePolygonSpec : ChangeSpec := { name := "fnExactSamePolygon", fn := fun _ => fun
  | [d1, d2] => { results := [.lit (.bool true)], args := [d1, d2] }
  | _ => none }
def fnExactSamePolygonRow : OpenClaim := { program := "ytfbalpkjcfdakaa", sum := "e6988ba81f9bfd3030b300937d55534fc0de51600ca8456e95c305e8a3e1bc38", func := "loop.example/g00890/laws.FnExactSamePolygon", spec := "fnExactSamePolygon", apart := false }
def FnExactSamePolygonSaid : Prop := fnExactSamePolygonRow.holds Try.pinned (OpenSpec.ofChange fnExactSamePolygonSpec)

/-- ITS FALSE NEIGHBOUR: 'it returns false'. Refute it at one input. -/
def fnExactSamePolygonWrong : ChangeSpec := { name := "fnExactSamePolygon", fn := fun _ => fun
  | [d1, d2] => { results := [.lit (.bool false)], args := [d1, d2] }
  | _ => none }
def FnExactSamePolygonWrongFalsely : Prop := fnExactSamePolygonRow.holds Try.pinned (OpenSpec.ofChange fnExactSamePolygonWrong)

/- THE SECOND FORM. 'bulk': how many values and letters a reading holds, each counted each time it is reached (what is shared counts as often as it is met; a slice's spare places count too). A statement '..UptoSaid' is the law's where the arguments, and the package variables that the reading takes, are together of bulk at most 1048576: NARROWER than '..Said'. Prove '..Said' where nothing that the law and all that it calls make is longer than what came in: it says more and counts as full. Else prove '..UptoSaid'. A law counts once. -/
mutual
def uptoBulk {H : Type} : DataW H → Nat
  | .lit (.string bytes) => bytes.length + 1
  | .lit _ => 1
  | .nil => 1
  | .ptr d => uptoBulk d + 1
  | .slice elems spare => uptoBulkAll elems + uptoBulkAll spare + 1
  | .agg parts => uptoBulkAll parts + 1
  | .iface _ d => uptoBulk d + 1
  | .map entries => uptoBulkEntries entries + 1
  | .held _ => 1
def uptoBulkAll {H : Type} : List (DataW H) → Nat
  | [] => 0
  | d :: r => uptoBulk d + uptoBulkAll r
def uptoBulkEntries {H : Type} : List (Lit × DataW H) → Nat
  | [] => 0
  | x :: r => uptoBulkEntry x + uptoBulkEntries r
def uptoBulkEntry {H : Type} : Lit × DataW H → Nat
  | (.string bytes, d) => bytes.length + uptoBulk d + 1
  | (_, d) => uptoBulk d + 1
 end
def uptoSmall : (H : Type) → List (DataW H) → Bool := fun _ ds => decide (uptoBulkAll ds ≤ 1048576)
def OpenSpec.upto (s : _root_.Go.ChangeSpec) : _root_.Go.OpenSpec := { _root_.Go.OpenSpec.ofChange s with cond := some uptoSmall }

/-- 'laws.FnExactIsValidPolygon', WHERE WHAT IT READS IS OF BULK AT MOST 1048576: true; the input reads as it did. -/
def fnExactIsValidPolygonUptoRow : OpenClaim := { program := "ytfbalpkjcfdakaa", sum := "e6988ba81f9bfd3030b300937d55534fc0de51600ca8456e95c305e8a3e1bc38", func := "loop.example/g00890/laws.FnExactIsValidPolygon", spec := "fnExactIsValidPolygon", apart := false, narrowed := true }
def FnExactIsValidPolygonUptoSaid : Prop := fnExactIsValidPolygonUptoRow.holds Try.pinned (OpenSpec.upto fnExactIsValidPolygonSpec)

/-- 'laws.FnExactSignedArea', WHERE WHAT IT READS IS OF BULK AT MOST 1048576: true; the input reads as it did. -/
def fnExactSignedAreaUptoRow : OpenClaim := { program := "ytfbalpkjcfdakaa", sum := "e6988ba81f9bfd3030b300937d55534fc0de51600ca8456e95c305e8a3e1bc38", func := "loop.example/g00890/laws.FnExactSignedArea", spec := "fnExactSignedArea", apart := false, narrowed := true }
def FnExactSignedAreaUptoSaid : Prop := fnExactSignedAreaUptoRow.holds Try.pinned (OpenSpec.upto fnExactSignedAreaSpec)

/-- 'laws.FnExactSamePolygon', WHERE WHAT IT READS IS OF BULK AT MOST 1048576: true; the input reads as it did. -/
def fnExactSamePolygonUptoRow : OpenClaim := { program := "ytfbalpkjcfdakaa", sum := "e6988ba81f9bfd3030b300937d55534fc0de51600ca8456e95c305e8a3e1bc38", func := "loop.example/g00890/laws.FnExactSamePolygon", spec := "fnExactSamePolygon", apart := false, narrowed := true }
def FnExactSamePolygonUptoSaid : Prop := fnExactSamePolygonUptoRow.holds Try.pinned (OpenSpec.upto fnExactSamePolygonSpec)

end Rows
end Go.Proofs.Ytfbalpkjcfdakaa
