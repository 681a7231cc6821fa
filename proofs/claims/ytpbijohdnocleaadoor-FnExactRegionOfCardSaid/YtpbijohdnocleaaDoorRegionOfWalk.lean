/- FnExactRegionOf answers true. Conditions: the rectangles' cells are in memory; the variables that regions read hold their tables. -/
import Derived.Test.YtpbijohdnocleaaDoorRgO
import Derived.Test.YtpbijohdnocleaaDoorRiY
import Derived.Test.YtpbijohdnocleaaDoorDebTab
namespace Go.Proofs.YtpbijohdnocleaaDoor
open Go.RowKit
set_option linter.unusedVariables false

theorem implRegionOf : ImplRegionOf := fun m n cap P Q R S w hn hcap hD hR => regionOf_any m n cap P Q R S w hn hcap hD hR
theorem walkRegionOf' (a : Option Addr) (n c1 : Nat) (w : World) (hn : n ≤ maxLen) (hPe : ∃ P Q R S, RectsIs w.heap.size w a n P Q R S) (hDb : EnvW w) :
    Calls Tryd.prog 4 #[.slice a n c1] w fun e w' => e = .returned (.bool true) ∧ Below w.heap.size w w' :=
  walkRegionOf implRegionOf a n c1 w hn hPe hDb
end Go.Proofs.YtpbijohdnocleaaDoor
