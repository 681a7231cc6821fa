/- FnExactClipRegion answers true. Conditions: the rectangles' cells are in memory; the variables that regions read hold their tables. -/
import Derived.Test.YtpbijohdnocleaaDoorRjA
namespace Go.Proofs.YtpbijohdnocleaaDoor
open Go.RowKit
set_option linter.unusedVariables false

theorem implClipRegion : ImplClipRegion := fun m n cap P Q R S p q r s w hn hcap hD hR => clipRegion_any m n cap P Q R S p q r s w hn hcap hD hR
theorem walkClipRegion' (a : Option Addr) (n c1 : Nat) (p q r s : Int) (w : World) (hn : n ≤ maxLen) (hPe : ∃ P Q R S, RectsIs w.heap.size w a n P Q R S) (hDb : EnvW w) :
    Calls Tryd.prog 9 #[.slice a n c1, .agg #[.int .i64 p, .int .i64 q, .int .i64 r, .int .i64 s]] w fun e w' => e = .returned (.bool true) ∧ Below w.heap.size w w' :=
  walkClipRegion implClipRegion a n c1 p q r s w hn hPe hDb
end Go.Proofs.YtpbijohdnocleaaDoor
