/- The model's sides: whether a side is there, the edge of which it is part, the order. Condition: the flags are in memory. -/
import Derived.Test.YtmabdemdapnmkaaDoorEgA
import Derived.Test.YtmabdemdapnmkaaDoorQC
namespace Go.Proofs.YtmabdemdapnmkaaDoor
open Go.RowKit
set_option linter.unusedVariables false
set_option linter.unusedSimpArgs false
attribute [local go_sem ↓] Go.wp_at_zero Go.wp_at_succ

/-- An edge as a value. -/
abbrev eV (e : R4) : Value := .agg #[.int .i64 e.a, .int .i64 e.b, .int .i64 e.c, .int .i64 e.d]
def dX (o : Nat) : Int := match o with | 0 => 1 | 1 => -1 | _ => 0
def dY (o : Nat) : Int := match o with | 0 => 0 | 1 => 0 | 2 => 1 | _ => -1
/-- The side that begins at a point, in a direction. -/
def sB (f : Nat → Bool) (o : Nat) (x y : Int) : Bool :=
  match o with
  | 0 => gS f 0 y x
  | 1 => gS f 1 y (x - 1)
  | 2 => gS f 2 x y
  | _ => gS f 3 x (y - 1)

end Go.Proofs.YtmabdemdapnmkaaDoor
