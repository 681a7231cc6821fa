/- The program's orientations: looking a matrix up, composing, inverting, images. Condition: the variable orientationMatrices holds its table. -/
import Derived.Test.YtdcddneanbplpaaDoorTrD
import Derived.ChangeKeysEq
namespace Go.Proofs.YtdcddneanbplpaaDoor
open Go.RowKit
set_option linter.unusedVariables false
set_option linter.unusedSimpArgs false
attribute [local go_sem ↓] Go.wp_at_zero Go.wp_at_succ

theorem mr_cell {w : World} (hM : Mats w) (k : Nat) (hk : k < 8) (j : Nat) (hj : j < 4) : w.cell? ⟨1, k * 4 + j, none⟩ = some (.int .i64 (mr k j)) := by
  have := hM (k * 4 + j) (by omega)
  simpa [mr] using this

theorem info_ex : ∃ i, Tryd.prog.info? 2 = some i := by
  have h : (Tryd.prog.info? 2).isSome = true := by kernel_rfl
  exact Option.isSome_iff_exists.1 h
theorem eqArr4 (a0 a1 a2 a3 b0 b1 b2 b3 : Int) (w : World) : (Op.equalIn 10000 136 (.agg #[.int .i64 a0, .int .i64 a1, .int .i64 a2, .int .i64 a3]) (.agg #[.int .i64 b0, .int .i64 b1, .int .i64 b2, .int .i64 b3])).run Tryd.prog w = .ok (a0 == b0 && (a1 == b1 && (a2 == b2 && a3 == b3))) w := by
  obtain ⟨i, hi⟩ := info_ex
  have c1 : Tryd.prog.cellsOf 2 = 1 := by kernel_rfl
  rw [run_equalIn_array w 9999 _ _ Tryd.underlying136 hi, c1]
  have r4 : List.range 4 = [0, 1, 2, 3] := rfl
  rw [r4]
  have hq : ∀ (a b : Int) (w : World), (Op.equalIn 9999 2 (.int .i64 a) (.int .i64 b)).run Tryd.prog w = .ok (a == b) w := fun a b w => run_equalIn_int w 9998 _ _ .i64 a b Tryd.underlying2
  have hp : ∀ (x0 x1 x2 x3 : Int) (w : World), (part 2 #[.int .i64 x0, .int .i64 x1, .int .i64 x2, .int .i64 x3] (0 * 1)).run Tryd.prog w = .ok (.int .i64 x0) w ∧ (part 2 #[.int .i64 x0, .int .i64 x1, .int .i64 x2, .int .i64 x3] (1 * 1)).run Tryd.prog w = .ok (.int .i64 x1) w ∧ (part 2 #[.int .i64 x0, .int .i64 x1, .int .i64 x2, .int .i64 x3] (2 * 1)).run Tryd.prog w = .ok (.int .i64 x2) w ∧ (part 2 #[.int .i64 x0, .int .i64 x1, .int .i64 x2, .int .i64 x3] (3 * 1)).run Tryd.prog w = .ok (.int .i64 x3) w :=
    fun _ _ _ _ _ => ⟨by kernel_rfl, by kernel_rfl, by kernel_rfl, by kernel_rfl⟩
  simp only [Op.eqItems, Sem.run_bind, (hp _ _ _ _ _).1, (hp _ _ _ _ _).2.1, (hp _ _ _ _ _).2.2.1, (hp _ _ _ _ _).2.2.2, Result.andThen_ok, hq, Sem.run_ite, Sem.run_pure]
  cases h0 : a0 == b0 <;> cases h1 : a1 == b1 <;> cases h2 : a2 == b2 <;> cases h3 : a3 == b3 <;> simp

theorem mr_eq : ∀ k o : Nat, k < 8 → o < 8 → (mr k 0 == mr o 0 && (mr k 1 == mr o 1 && (mr k 2 == mr o 2 && mr k 3 == mr o 3))) = decide (k = o) := by
  have h : ∀ k o : Fin 8, (mr k 0 == mr o 0 && (mr k 1 == mr o 1 && (mr k 2 == mr o 2 && mr k 3 == mr o 3))) = decide (k.1 = o.1) := by decide
  intro k o hk ho
  exact h ⟨k, hk⟩ ⟨o, ho⟩
end Go.Proofs.YtdcddneanbplpaaDoor
