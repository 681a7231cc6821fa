/- The program's orientations: looking a matrix up, composing, inverting, images. Condition: the variable orientationMatrices holds its table. -/
import Derived.Test.YtciodcknobccdaaDoorTrD
import Derived.ChangeKeysEq
namespace Go.Proofs.YtciodcknobccdaaDoor
open Go.RowKit
set_option linter.unusedVariables false
set_option linter.unusedSimpArgs false
attribute [local go_sem ↓] Go.wp_at_zero Go.wp_at_succ

theorem mr_cell {w : World} (hM : Mats w) (k : Nat) (hk : k < 8) (j : Nat) (hj : j < 4) : w.cell? ⟨0, k * 4 + j, none⟩ = some (.int .i64 (mr k j)) := by
  have := hM (k * 4 + j) (by omega)
  simpa [mr] using this

theorem info_ex : ∃ i, Tryd.prog.info? 2 = some i := by
  have h : (Tryd.prog.info? 2).isSome = true := by kernel_rfl
  exact Option.isSome_iff_exists.1 h
theorem eqArr4 (a0 a1 a2 a3 b0 b1 b2 b3 : Int) (w : World) : (Op.equalIn 10000 124 (.agg #[.int .i64 a0, .int .i64 a1, .int .i64 a2, .int .i64 a3]) (.agg #[.int .i64 b0, .int .i64 b1, .int .i64 b2, .int .i64 b3])).run Tryd.prog w = .ok (a0 == b0 && (a1 == b1 && (a2 == b2 && a3 == b3))) w := by
  obtain ⟨i, hi⟩ := info_ex
  have c1 : Tryd.prog.cellsOf 2 = 1 := by kernel_rfl
  rw [run_equalIn_array w 9999 _ _ Tryd.underlying124 hi, c1]
  have r4 : List.range 4 = [0, 1, 2, 3] := rfl
  rw [r4]
  have hq : ∀ (a b : Int) (w : World), (Op.equalIn 9999 2 (.int .i64 a) (.int .i64 b)).run Tryd.prog w = .ok (a == b) w := fun a b w => run_equalIn_int w 9998 _ _ .i64 a b Tryd.underlying2
  have hp : ∀ (x0 x1 x2 x3 : Int) (w : World), (part 2 #[.int .i64 x0, .int .i64 x1, .int .i64 x2, .int .i64 x3] (0 * 1)).run Tryd.prog w = .ok (.int .i64 x0) w ∧ (part 2 #[.int .i64 x0, .int .i64 x1, .int .i64 x2, .int .i64 x3] (1 * 1)).run Tryd.prog w = .ok (.int .i64 x1) w ∧ (part 2 #[.int .i64 x0, .int .i64 x1, .int .i64 x2, .int .i64 x3] (2 * 1)).run Tryd.prog w = .ok (.int .i64 x2) w ∧ (part 2 #[.int .i64 x0, .int .i64 x1, .int .i64 x2, .int .i64 x3] (3 * 1)).run Tryd.prog w = .ok (.int .i64 x3) w :=
    fun _ _ _ _ _ => ⟨by kernel_rfl, by kernel_rfl, by kernel_rfl, by kernel_rfl⟩
  simp only [Op.eqItems, Sem.run_bind, (hp _ _ _ _ _).1, (hp _ _ _ _ _).2.1, (hp _ _ _ _ _).2.2.1, (hp _ _ _ _ _).2.2.2, Result.andThen_ok, hq, Sem.run_ite, Sem.run_pure]
  cases h0 : a0 == b0 <;> cases h1 : a1 == b1 <;> cases h2 : a2 == b2 <;> cases h3 : a3 == b3 <;> simp

theorem mr_eq : ∀ k o : Nat, k < 8 → o < 8 → (mr k 0 == mr o 0 && (mr k 1 == mr o 1 && (mr k 2 == mr o 2 && mr k 3 == mr o 3))) = decide (k = o) := by
  have h : ∀ k o : Fin 8, (mr k 0 == mr o 0 && (mr k 1 == mr o 1 && (mr k 2 == mr o 2 && mr k 3 == mr o 3))) = decide (k.1 = o.1) := by decide
  intro k o hk ho
  exact h ⟨k, hk⟩ ⟨o, ho⟩
theorem orientationWith_any (o : Nat) (w : World) (h7 : o < 8) (hM : Mats w) :
    Calls Tryd.prog 89 #[.agg #[.int .i64 (mr o 0), .int .i64 (mr o 1), .int .i64 (mr o 2), .int .i64 (mr o 3)]] w fun e w' => e = .returned (.int .i64 o) ∧ Below w.heap.size w w' := by
  have hms := hM.size
  have hmz := hM.ne
  go_enter Tryd.func89, Tryd.ntmps89
  go_wp2_with fail
  go_loopw [4] (fun s wr => ∃ k : Nat, k ≤ o ∧ s = .int .i64 k ∧ Below w.heap.size w wr ∧ wr.cell? ⟨w.heap.size, 0, none⟩ = some (.int .i64 (mr o 0)) ∧ wr.cell? ⟨w.heap.size, 1, none⟩ = some (.int .i64 (mr o 1)) ∧ wr.cell? ⟨w.heap.size, 2, none⟩ = some (.int .i64 (mr o 2)) ∧ wr.cell? ⟨w.heap.size, 3, none⟩ = some (.int .i64 (mr o 3))) (fun s _ => 8 - (intOf s).toNat)
  case atStart => exact ⟨0, by omega, rfl, by (repeat (first | (with_reducible exact Below.refl _ _) | (with_reducible refine Ext.drewN ?_ _) | (with_reducible refine Below.drew ?_) | (with_reducible refine Ext.alloc ?_ _) | (with_reducible refine Ext.setCell ?_ (by simp; try omega) _) | (with_reducible refine Ext.trans ?_ (by assumption)) | (with_reducible assumption) | exact Below.refl _ _)), by simp, by simp, by simp, by simp⟩
  case round =>
    obtain ⟨k, hk, rfl, hB, e0, e1, e2, e3⟩ := hrel
    have hMr : Mats wr := hM.below hB hms
    have g0 : wr.cell? ⟨0, k * 4, none⟩ = some (.int .i64 (mr k 0)) := mr_cell hMr k (by omega) 0 (by omega)
    have g1 := mr_cell hMr k (by omega) 1 (by omega)
    have g2 := mr_cell hMr k (by omega) 2 (by omega)
    have g3 := mr_cell hMr k (by omega) 3 (by omega)
    have b1 : (0 : Int) ≤ (k : Int) := by omega
    have b2 : (k : Int) < 8 := by omega
    by_cases hko : k = o
    · subst hko
      have heq : ∀ w : World, (Op.equalIn 10000 124 (.agg #[.int .i64 (mr k 0), .int .i64 (mr k 1), .int .i64 (mr k 2), .int .i64 (mr k 3)]) (.agg #[.int .i64 (mr k 0), .int .i64 (mr k 1), .int .i64 (mr k 2), .int .i64 (mr k 3)])).run Tryd.prog w = .ok true w := fun w => by rw [eqArr4, mr_eq k k h7 h7]; simp
      go_wp2_with fail
      go_quiet (fail)
      go_wp2_with fail
      go_ret
      exact ⟨rfl, by (repeat (first | (with_reducible exact Below.refl _ _) | (with_reducible refine Ext.drewN ?_ _) | (with_reducible refine Below.drew ?_) | (with_reducible refine Ext.alloc ?_ _) | (with_reducible refine Ext.setCell ?_ (by simp; try omega) _) | (with_reducible refine Ext.trans ?_ (by assumption)) | (with_reducible assumption) | exact Below.refl _ _))⟩
    · have heq : ∀ w : World, (Op.equalIn 10000 124 (.agg #[.int .i64 (mr k 0), .int .i64 (mr k 1), .int .i64 (mr k 2), .int .i64 (mr k 3)]) (.agg #[.int .i64 (mr o 0), .int .i64 (mr o 1), .int .i64 (mr o 2), .int .i64 (mr o 3)])).run Tryd.prog w = .ok false w := fun w => by rw [eqArr4, mr_eq k o (by omega) h7, decide_eq_false hko]
      go_wp2_with fail
      go_quiet (fail)
      go_wp2_with fail
      go_roundw
      case rel => exact ⟨k + 1, by omega, by go_num, by (repeat (first | (with_reducible exact Below.refl _ _) | (with_reducible refine Ext.drewN ?_ _) | (with_reducible refine Below.drew ?_) | (with_reducible refine Ext.alloc ?_ _) | (with_reducible refine Ext.setCell ?_ (by simp; try omega) _) | (with_reducible refine Ext.trans ?_ (by assumption)) | (with_reducible assumption) | exact Below.refl _ _)), e0, e1, e2, e3⟩
      case measure => simp [intOf]; omega
end Go.Proofs.YtciodcknobccdaaDoor
