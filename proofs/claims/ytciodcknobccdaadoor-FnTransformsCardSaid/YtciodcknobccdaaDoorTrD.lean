/- Contracts of the program's matrices and orientations. Condition: the variable orientationMatrices holds its table. -/
import Derived.Test.YtciodcknobccdaaDoorTrC
import Derived.Test.YtciodcknobccdaaDoorTrLaid
import Derived.Deep.RegionHeld3
import Derived.Deep.DeepCutAuto
import Derived.Deep.DrawnRows
namespace Go.Proofs.YtciodcknobccdaaDoor
open Go.RowKit
set_option linter.unusedVariables false
set_option linter.unusedSimpArgs false
attribute [local go_sem ↓] Go.wp_at_zero Go.wp_at_succ


def mr (o : Int) (j : Nat) : Int := matL.getD (o.toNat * 4 + j) 0

theorem oct {o : Int} (h0 : 0 ≤ o) (h7 : o ≤ 7) : o = 0 ∨ o = 1 ∨ o = 2 ∨ o = 3 ∨ o = 4 ∨ o = 5 ∨ o = 6 ∨ o = 7 := by omega

set_option maxHeartbeats 4000000 in
theorem matImage_any (o x y : Int) (w : World) (h0 : 0 ≤ o) (h7 : o ≤ 7) (hx : -1000000 ≤ x) (hx' : x ≤ 1000000) (hy : -1000000 ≤ y) (hy' : y ≤ 1000000) :
    Calls Tryd.prog 91 #[.agg #[.int .i64 (mr o 0), .int .i64 (mr o 1), .int .i64 (mr o 2), .int .i64 (mr o 3)], .agg #[.int .i64 x, .int .i64 y]] w fun e w' => e = .returned (.agg #[.int .i64 (tX o x y), .int .i64 (tY o x y)]) ∧ Below w.heap.size w w' := by
  rcases oct h0 h7 with rfl | rfl | rfl | rfl | rfl | rfl | rfl | rfl
  all_goals
    simp only [mr, matL, tX, tY, Int.toNat_zero, Int.toNat_one, Int.reduceToNat, Nat.reduceMul, Nat.reduceAdd, List.getD_cons_succ, List.getD_cons_zero, Nat.zero_mul, Nat.one_mul, Nat.zero_add, Int.reduceEq, if_true, if_false, reduceIte]
    go_enter Tryd.func91, Tryd.ntmps91
    go_wp2_with fail
    refine bodyPost_ret (v := .agg #[.int .i64 _, .int .i64 _]) (by simp [*, results, Tryd.results91, go_sem]; exact ⟨rfl, rfl⟩) rfl ⟨?_, ?_⟩
    · refine ret_point ?_ ?_ <;> omega
    · (repeat (first | (with_reducible exact Below.refl _ _) | (with_reducible refine Ext.drewN ?_ _) | (with_reducible refine Below.drew ?_) | (with_reducible refine Ext.alloc ?_ _) | (with_reducible refine Ext.setCell ?_ (by simp; try omega) _) | (with_reducible refine Ext.trans ?_ (by assumption)) | (with_reducible assumption) | exact Below.refl _ _))

end Go.Proofs.YtciodcknobccdaaDoor
