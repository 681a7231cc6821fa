/- ComposeTransforms: the program's. Condition: the variable orientationMatrices holds its table. -/
import Derived.Test.YtlbanaoabifaiaaDoorTrM
namespace Go.Proofs.YtlbanaoabifaiaaDoor
open Go.RowKit
set_option linter.unusedVariables false
set_option linter.unusedSimpArgs false
attribute [local go_sem ↓] Go.wp_at_zero Go.wp_at_succ

end Go.Proofs.YtlbanaoabifaiaaDoor
