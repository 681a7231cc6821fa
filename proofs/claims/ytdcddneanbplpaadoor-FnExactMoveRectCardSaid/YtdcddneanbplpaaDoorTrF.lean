/- The program's orientations: composing, inverting, images. Condition: the variable orientationMatrices holds its table. -/
import Derived.Test.YtdcddneanbplpaaDoorTrE
import Derived.Lib.Hide
namespace Go.Proofs.YtdcddneanbplpaaDoor
open Go.RowKit
set_option linter.unusedVariables false
set_option linter.unusedSimpArgs false
attribute [local go_sem ↓] Go.wp_at_zero Go.wp_at_succ

/-- Orientation a first, then b. -/
def cmpO (a b : Nat) : Nat := if b < 4 then (if a < 4 then (a + b) % 4 else 4 + (a - 4 + b) % 4) else (if a < 4 then 4 + (b - 4 + (4 - a)) % 4 else (b - 4 + (8 - a)) % 4)
def invO (a : Nat) : Nat := if a < 4 then (4 - a) % 4 else a
theorem cmpO_lt : ∀ a b : Nat, a < 8 → b < 8 → cmpO a b < 8 := by
  intro a b ha hb; unfold cmpO; (repeat' split) <;> omega
theorem invO_lt : ∀ a : Nat, a < 8 → invO a < 8 := by
  intro a ha; unfold invO; split <;> omega
theorem mr_cmp : ∀ a b : Nat, a < 8 → b < 8 → tX b (mr a 0) (mr a 2) = mr (cmpO a b) 0 ∧ tX b (mr a 1) (mr a 3) = mr (cmpO a b) 1 ∧ tY b (mr a 0) (mr a 2) = mr (cmpO a b) 2 ∧ tY b (mr a 1) (mr a 3) = mr (cmpO a b) 3 := by
  have h : ∀ a b : Fin 8, tX b (mr a 0) (mr a 2) = mr (cmpO a b) 0 ∧ tX b (mr a 1) (mr a 3) = mr (cmpO a b) 1 ∧ tY b (mr a 0) (mr a 2) = mr (cmpO a b) 2 ∧ tY b (mr a 1) (mr a 3) = mr (cmpO a b) 3 := by decide
  intro a b ha hb
  exact h ⟨a, ha⟩ ⟨b, hb⟩
theorem mr_inv : ∀ a : Nat, a < 8 → mr a 0 = mr (invO a) 0 ∧ mr a 2 = mr (invO a) 1 ∧ mr a 1 = mr (invO a) 2 ∧ mr a 3 = mr (invO a) 3 := by
  have h : ∀ a : Fin 8, mr a 0 = mr (invO a) 0 ∧ mr a 2 = mr (invO a) 1 ∧ mr a 1 = mr (invO a) 2 ∧ mr a 3 = mr (invO a) 3 := by decide
  intro a ha
  exact h ⟨a, ha⟩
theorem mr_bd : ∀ a : Nat, a < 8 → (-1000 ≤ mr a 0 ∧ mr a 0 ≤ 1000) ∧ (-1000 ≤ mr a 1 ∧ mr a 1 ≤ 1000) ∧ (-1000 ≤ mr a 2 ∧ mr a 2 ≤ 1000) ∧ (-1000 ≤ mr a 3 ∧ mr a 3 ≤ 1000) := by
  have h : ∀ a : Fin 8, (-1000 ≤ mr a 0 ∧ mr a 0 ≤ 1000) ∧ (-1000 ≤ mr a 1 ∧ mr a 1 ≤ 1000) ∧ (-1000 ≤ mr a 2 ∧ mr a 2 ≤ 1000) ∧ (-1000 ≤ mr a 3 ∧ mr a 3 ≤ 1000) := by decide
  intro a ha
  exact h ⟨a, ha⟩

end Go.Proofs.YtdcddneanbplpaaDoor
