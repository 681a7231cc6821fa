/- The walks of FnExactIsRegion, FnExactRegionArea, FnExactRegionContains over a contract of the program's function. Condition: the rectangles' cells are in memory. -/
import Derived.Test.YtdcddneanbplpaaDoorRgI
import Derived.Test.YtdcddneanbplpaaDoorRgK
import Derived.Test.YtdcddneanbplpaaDoorRiC
namespace Go.Proofs.YtdcddneanbplpaaDoor
open Go.RowKit
set_option linter.unusedVariables false
set_option linter.unusedSimpArgs false

/-- The contract that the walk asks of the program's IsRegion. -/
def ImplIsRegion : Prop := ∀ (m : Option Addr) (n cap : Nat) (P Q R S : Nat → Int) (W : World), n ≤ 1048576 → n ≤ cap → EnvW W → RectsIs W.heap.size W m n P Q R S → Calls Tryd.prog 63 #[.slice m n cap] W fun e W' => e = .returned (.bool (okR P Q R S n)) ∧ Below W.heap.size W W'

/-- The contract that the walk asks of the program's RegionArea. -/
def ImplRegionArea : Prop := ∀ (m : Option Addr) (n cap : Nat) (P Q R S : Nat → Int) (W : World), n ≤ 1048576 → n ≤ cap → EnvW W → RectsIs W.heap.size W m n P Q R S → Calls Tryd.prog 58 #[.slice m n cap] W fun e W' => e = .returned (.int .i64 (areaR P Q R S n)) ∧ Below W.heap.size W W'

end Go.Proofs.YtdcddneanbplpaaDoor
