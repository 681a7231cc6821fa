/- Contracts of the model's turns and moves. Conditions: the orientation is in 0..7 and the coordinates are small. -/
import Derived.Test.YtciodcknobccdaaDoorTrA
namespace Go.Proofs.YtciodcknobccdaaDoor
open Go.RowKit
set_option linter.unusedVariables false
set_option linter.unusedSimpArgs false

def tX (o x y : Int) : Int := if o = 0 then x else if o = 1 then -y else if o = 2 then -x else if o = 3 then y else if o = 4 then x else if o = 5 then y else if o = 6 then -x else -y
def tY (o x y : Int) : Int := if o = 0 then y else if o = 1 then x else if o = 2 then -y else if o = 3 then -x else if o = 4 then -y else if o = 5 then x else if o = 6 then y else -x


def rX (j : Nat) (x y : Int) : Int := match j with | 0 => x | 1 => -y | 2 => -x | _ => y
def rY (j : Nat) (x y : Int) : Int := match j with | 0 => y | 1 => x | 2 => -y | _ => -x

set_option maxHeartbeats 4000000 in
theorem turn_any (o x y : Int) (w : World) (h0 : 0 ≤ o) (h7 : o ≤ 7) (hx : -1000000 ≤ x) (hx' : x ≤ 1000000) (hy : -1000000 ≤ y) (hy' : y ≤ 1000000) :
    Calls Tryd.prog 85 #[.int .i64 o, .agg #[.int .i64 x, .int .i64 y]] w fun e w' => e = .returned (.agg #[.int .i64 (tX o x y), .int .i64 (tY o x y)]) ∧ Below w.heap.size w w' := by
  rcases (show o = 0 ∨ o = 1 ∨ o = 2 ∨ o = 3 ∨ o = 4 ∨ o = 5 ∨ o = 6 ∨ o = 7 by omega) with rfl | rfl | rfl | rfl | rfl | rfl | rfl | rfl
  all_goals
    go_enter Tryd.func85, Tryd.ntmps85
    go_wp2_with fail
    go_quiet (fail)
    go_wp2_with fail
    go_rounds 4
    refine bodyPost_ret (v := .agg #[.int .i64 (tX _ x y), .int .i64 (tY _ x y)]) (by simp [results, Tryd.results85, go_sem, tX, tY]) rfl ⟨rfl, ?_⟩
    repeat (first | exact Below.refl _ _ | refine Ext.drewN ?_ _ | refine Ext.alloc ?_ _ | refine Ext.setCell ?_ (by simp) _)
end Go.Proofs.YtciodcknobccdaaDoor
