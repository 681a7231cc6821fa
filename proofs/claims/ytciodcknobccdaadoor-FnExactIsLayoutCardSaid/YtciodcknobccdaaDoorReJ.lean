/- Rectangles: the bounding box of a list. Conditions: the elements' cells are in memory. -/
import Derived.Test.YtciodcknobccdaaDoorReI
namespace Go.Proofs.YtciodcknobccdaaDoor
open Go.RowKit
set_option linter.unusedVariables false
set_option linter.unusedSimpArgs false
attribute [local go_sem ↓] Go.wp_at_zero Go.wp_at_succ

def sh (f : Nat → Int) (k : Nat) : Int := f (k + 1)

end Go.Proofs.YtciodcknobccdaaDoor
