/- MoveEdge's two contracts, their answers written out. Condition: the variable orientationMatrices holds its table. -/
import Derived.Test.YtmabdemdapnmkaaDoorEgN
namespace Go.Proofs.YtmabdemdapnmkaaDoor
open Go.RowKit
theorem specMoveEdge_o2 (o x y a b c d : Int) (w : World) : Calls Tryd.prog 13 #[.agg #[.int .i64 o, .int .i64 x, .int .i64 y], .agg #[.int .i64 a, .int .i64 b, .int .i64 c, .int .i64 d]] w fun e w' => e = .returned (.tuple #[.agg #[.int .i64 (me0 o x y a b c d), .int .i64 (me1 o x y a b c d), .int .i64 (me2 o x y a b c d), .int .i64 (me3 o x y a b c d)], .bool (meB o x y a b c d)]) ∧ Below w.heap.size w w' := specMoveEdge_out o x y a b c d w
theorem implMoveEdge_o2 (o x y a b c d : Int) (w : World) (hM : Mats w) : Calls Tryd.prog 16 #[.agg #[.int .i64 o, .int .i64 x, .int .i64 y], .agg #[.int .i64 a, .int .i64 b, .int .i64 c, .int .i64 d]] w fun e w' => e = .returned (.tuple #[.agg #[.int .i64 (me0 o x y a b c d), .int .i64 (me1 o x y a b c d), .int .i64 (me2 o x y a b c d), .int .i64 (me3 o x y a b c d)], .bool (meB o x y a b c d)]) ∧ Below w.heap.size w w' := implMoveEdge_out o x y a b c d w hM
end Go.Proofs.YtmabdemdapnmkaaDoor
