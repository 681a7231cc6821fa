/- The composition of orientations: the model's search and the program's matrices. Condition: the variable orientationMatrices holds its table. -/
import Derived.Test.YtlbanaoabifaiaaDoorTrG
namespace Go.Proofs.YtlbanaoabifaiaaDoor
open Go.RowKit
set_option linter.unusedVariables false
set_option linter.unusedSimpArgs false
attribute [local go_sem ↓] Go.wp_at_zero Go.wp_at_succ

theorem eqPt (a b c d : Int) (w : World) : (Op.equalIn 10000 32 (.agg #[.int .i64 a, .int .i64 b]) (.agg #[.int .i64 c, .int .i64 d])).run Tryd.prog w = .ok (a == c && b == d) w := by
  have hq : ∀ (a b : Int) (w : World), (Op.equalIn 9999 2 (.int .i64 a) (.int .i64 b)).run Tryd.prog w = .ok (a == b) w := fun a b w => run_equalIn_int w 9998 _ _ .i64 a b Tryd.underlying2
  have hs : Tryd.prog.stoodInHeld 32 = false := by kernel_rfl
  have hu : Tryd.prog.underlying 32 = some (.struct (Tryd.prog.fieldsOf 32)) := by kernel_rfl
  rw [run_equalIn_agg w 9999 _ _ _ hu hs]
  have hp : ∀ (x0 x1 : Int) (w : World), (part 2 #[.int .i64 x0, .int .i64 x1] 0).run Tryd.prog w = .ok (.int .i64 x0) w ∧ (part 2 #[.int .i64 x0, .int .i64 x1] 1).run Tryd.prog w = .ok (.int .i64 x1) w :=
    fun _ _ _ => ⟨by kernel_rfl, by kernel_rfl⟩
  have hf : (Tryd.prog.fieldsOf 32).toList.map (fun f => (f.name, f.type, f.offset)) = [("X", 2, 0), ("Y", 2, 1)] := by kernel_rfl
  generalize (Tryd.prog.fieldsOf 32).toList = fs at hf
  rcases fs with _ | ⟨f0, _ | ⟨f1, _ | ⟨f2, r⟩⟩⟩
  · simp at hf
  · simp at hf
  · simp only [List.map_cons, List.map_nil, List.cons.injEq, Prod.mk.injEq, and_true] at hf
    obtain ⟨⟨n0, t0, o0⟩, n1, t1, o1⟩ := hf
    simp only [Op.eqFields, n0, t0, o0, n1, t1, o1]
    simp only [ne_eq, String.reduceEq, not_false_eq_true, if_true, Sem.run_bind, (hp _ _ _).1, (hp _ _ _).2, Result.andThen_ok, hq, Sem.run_ite, Sem.run_pure]
    cases h0 : a == c <;> cases h1 : b == d <;> simp
  · simp at hf

theorem turn_cmp : ∀ a b : Nat, a < 8 → b < 8 → tX b (tX a 1 2) (tY a 1 2) = tX (cmpO a b) 1 2 ∧ tY b (tX a 1 2) (tY a 1 2) = tY (cmpO a b) 1 2 := by
  have h : ∀ a b : Fin 8, tX b (tX a 1 2) (tY a 1 2) = tX (cmpO a b) 1 2 ∧ tY b (tX a 1 2) (tY a 1 2) = tY (cmpO a b) 1 2 := by decide
  intro a b ha hb
  exact h ⟨a, ha⟩ ⟨b, hb⟩
theorem turn_inj : ∀ k c : Nat, k < 8 → c < 8 → (tX k 1 2 == tX c 1 2 && tY k 1 2 == tY c 1 2) = decide (k = c) := by
  have h : ∀ k c : Fin 8, (tX k 1 2 == tX c 1 2 && tY k 1 2 == tY c 1 2) = decide (k.1 = c.1) := by decide
  intro k c hk hc
  exact h ⟨k, hk⟩ ⟨c, hc⟩

end Go.Proofs.YtlbanaoabifaiaaDoor
