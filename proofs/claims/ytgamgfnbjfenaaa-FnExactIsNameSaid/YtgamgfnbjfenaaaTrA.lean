/- Contracts for the transforms' plain functions: ranges, validity, conversions. Conditions: none but those of each theorem. -/
import Derived.Test.YtgamgfnbjfenaaaBase
namespace Go.Proofs.Ytgamgfnbjfenaaa
open Go.RowKit
set_option linter.unusedVariables false
set_option linter.unusedSimpArgs false


def vldB (o x y : Int) : Bool := inB o 0 7 && inB x (-80) 80 && inB y (-80) 80

theorem vldB_t {o x y : Int} (h : vldB o x y = true) : (0 ≤ o ∧ o ≤ 7) ∧ (-80 ≤ x ∧ x ≤ 80) ∧ (-80 ≤ y ∧ y ≤ 80) := by
  unfold vldB at h
  simp only [Bool.and_eq_true] at h
  exact ⟨inB_t h.1.1, inB_t h.1.2, inB_t h.2⟩
theorem vldB_mk {o x y : Int} (h1 : 0 ≤ o) (h2 : o ≤ 7) (h3 : -80 ≤ x) (h4 : x ≤ 80) (h5 : -80 ≤ y) (h6 : y ≤ 80) : vldB o x y = true := by
  unfold vldB; rw [inB_mk h1 h2, inB_mk h3 h4, inB_mk h5 h6]; rfl


theorem inRange_any (n lo hi : Int) (w : World) : Calls Try.prog 7 #[.int .i64 n, .int .i64 lo, .int .i64 hi] w fun e w' => e = .returned (.bool (inB n lo hi)) ∧ w = w' := by
  by_cases h1 : lo ≤ n
  · by_cases h2 : n ≤ hi
    all_goals
      go_enter Try.func7, Try.ntmps7
      go_wp2
      go_ret
      exact ⟨ret_bool (by simp [inB, h1, h2]), rfl⟩
  · go_enter Try.func7, Try.ntmps7
    go_wp2
    go_ret
    exact ⟨ret_bool (inB_f (by omega)).symm, rfl⟩

end Go.Proofs.Ytgamgfnbjfenaaa
