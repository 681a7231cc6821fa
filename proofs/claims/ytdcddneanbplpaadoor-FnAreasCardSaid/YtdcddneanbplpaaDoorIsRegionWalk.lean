/- FnExactIsRegion answers true. Conditions: the rectangles' cells are in memory; the table of math/bits is in memory. -/
import Derived.Test.YtdcddneanbplpaaDoorRgM
import Derived.Test.YtdcddneanbplpaaDoorRiP
import Derived.Test.YtdcddneanbplpaaDoorDebTab
namespace Go.Proofs.YtdcddneanbplpaaDoor
open Go.RowKit

theorem implIsRegion : ImplIsRegion := fun m n cap P Q R S W hn hc hD hR => isRegion_any m n cap P Q R S W hn hc hD hR
end Go.Proofs.YtdcddneanbplpaaDoor
