/- The walk of the exact law of IsValidTransform. No condition. -/
import Derived.Test.YtliaconoppnclaaTrA
namespace Go.Proofs.Ytliaconoppnclaa
open Go.RowKit
set_option linter.unusedVariables false
theorem walkIsValid (o x y : Int) (w : World) : Calls Try.prog 3 #[.agg #[.int .i64 o, .int .i64 x, .int .i64 y]] w fun e w' => e = .returned (.bool true) ∧ Below w.heap.size w w' := by
  go_enter Try.func3, Try.ntmps3
  go_wp2_with (first | (go_at_call 5; refine (toTransform_any _ _ _ _).mono ?_; rintro e w' ⟨rfl, hb⟩; obtain ⟨hz, hc, hf⟩ := bcell hb) | (go_at_call 4; refine (specValid_any _ _ _ _).mono ?_; rintro e w' ⟨rfl, hb⟩; obtain ⟨hz, hc, hf⟩ := bcell hb) | (go_at_call 6; refine (implValid_any _ _ _ _).mono ?_; rintro e w' ⟨rfl, hb⟩; obtain ⟨hz, hc, hf⟩ := bcell hb))
  go_ret
  exact ⟨rfl, by repeat (first | exact Below.refl _ _ | refine Ext.alloc ?_ _ | refine Ext.trans ?_ (by assumption))⟩
end Go.Proofs.Ytliaconoppnclaa
