/- Rectangles: area, containment of a unit cell. Conditions: none but those of each theorem. -/
import Derived.Test.YtciodcknobccdaaReB
namespace Go.Proofs.Ytciodcknobccdaa
open Go.RowKit
set_option linter.unusedVariables false
set_option linter.unusedSimpArgs false
attribute [local go_sem ↓] Go.wp_at_zero Go.wp_at_succ

def areaV (a b c d : Int) : Int := if rvB a b c d = true then (c - a) * (d - b) else -1
theorem area_bd {a b c d : Int} (h : rvB a b c d = true) : 0 ≤ (c - a) * (d - b) ∧ (c - a) * (d - b) ≤ 6400 := by
  obtain ⟨h1, h2, h3, h4, h5, h6⟩ := rvB_t h
  refine ⟨Int.mul_nonneg (by omega) (by omega), ?_⟩
  have := Int.mul_le_mul (a := c - a) (b := d - b) (c := 80) (d := 80) (by omega) (by omega) (by omega) (by omega)
  omega
def rcB (a b c d x y : Int) : Bool := rvB a b c d && decide (a ≤ x ∧ x < c ∧ b ≤ y ∧ y < d)
theorem inRangeR_any (n lo hi : Int) (w : World) : Calls Try.prog 17 #[.int .i64 n, .int .i64 lo, .int .i64 hi] w fun e w' => e = .returned (.bool (inB n lo hi)) ∧ w = w' := by
  by_cases h1 : lo ≤ n
  · by_cases h2 : n ≤ hi
    all_goals
      go_enter Try.func17, Try.ntmps17
      go_wp2
      go_ret
      exact ⟨ret_bool (by simp [inB, h1, h2]), rfl⟩
  · go_enter Try.func17, Try.ntmps17
    go_wp2
    go_ret
    exact ⟨ret_bool (inB_f (by omega)).symm, rfl⟩
end Go.Proofs.Ytciodcknobccdaa
