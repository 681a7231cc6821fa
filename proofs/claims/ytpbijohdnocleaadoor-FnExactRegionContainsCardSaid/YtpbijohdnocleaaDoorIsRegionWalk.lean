/- FnExactIsRegion answers true. Conditions: the rectangles' cells are in memory; the table of math/bits is in memory. -/
import Derived.Test.YtpbijohdnocleaaDoorRgM
import Derived.Test.YtpbijohdnocleaaDoorRiP
import Derived.Test.YtpbijohdnocleaaDoorDebTab
namespace Go.Proofs.YtpbijohdnocleaaDoor
open Go.RowKit

theorem implIsRegion : ImplIsRegion := fun m n cap P Q R S W hn hc hD hR => isRegion_any m n cap P Q R S W hn hc hD hR
theorem walkIsRegion' (a : Option Addr) (n c1 : Nat) (w : World) (hn : n ≤ maxLen) (hPe : ∃ P Q R S, RectsIs w.heap.size w a n P Q R S) (hDb : EnvW w) :
    Calls Tryd.prog 3 #[.slice a n c1] w fun e w' => e = .returned (.bool true) ∧ Below w.heap.size w w' :=
  walkIsRegion implIsRegion a n c1 w hn hPe hDb
end Go.Proofs.YtpbijohdnocleaaDoor
