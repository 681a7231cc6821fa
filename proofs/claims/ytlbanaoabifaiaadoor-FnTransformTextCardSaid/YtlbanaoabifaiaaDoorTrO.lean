/- InvertTransform: the model's and the program's. Condition: the variable orientationMatrices holds its table. -/
import Derived.Test.YtlbanaoabifaiaaDoorTrH
import Derived.Test.YtlbanaoabifaiaaDoorTrK
namespace Go.Proofs.YtlbanaoabifaiaaDoor
open Go.RowKit
set_option linter.unusedVariables false
set_option linter.unusedSimpArgs false
attribute [local go_sem ↓] Go.wp_at_zero Go.wp_at_succ

def it0 (o x y : Int) : Int := if vldB o x y = true then (invO o.toNat : Nat) else 0
def it1 (o x y : Int) : Int := if vldB o x y = true then tX (invO o.toNat : Nat) (-x) (-y) else 0
def it2 (o x y : Int) : Int := if vldB o x y = true then tY (invO o.toNat : Nat) (-x) (-y) else 0
theorem it_yes {o x y : Int} (h : vldB o x y = true) : it0 o x y = (invO o.toNat : Nat) ∧ it1 o x y = tX (invO o.toNat : Nat) (-x) (-y) ∧ it2 o x y = tY (invO o.toNat : Nat) (-x) (-y) := by
  simp [it0, it1, it2, h]
theorem it_no {o x y : Int} (h : vldB o x y = false) : it0 o x y = 0 ∧ it1 o x y = 0 ∧ it2 o x y = 0 := by
  simp [it0, it1, it2, h]
theorem cmp_inv : ∀ n k : Nat, n < 8 → k < 8 → (((cmpO n k : Nat) : Int) == 0) = decide (k = invO n) := by
  have h : ∀ n k : Fin 8, (((cmpO n k : Nat) : Int) == 0) = decide (k.1 = invO n) := by decide
  intro n k hn hk
  exact h ⟨n, hn⟩ ⟨k, hk⟩
def io (c k : Nat) (v : Int) : Int := if c < k then v else 0
theorem io_lt {c k : Nat} (h : c < k) (v : Int) : io c k v = v := if_pos h
theorem io_ge {c k : Nat} (h : ¬ c < k) (v : Int) : io c k v = 0 := if_neg h
theorem io_step {c k : Nat} (h : k ≠ c) (v : Int) : io c (k + 1) v = io c k v := by
  unfold io
  by_cases q : c < k
  · rw [if_pos q, if_pos (by omega)]
  · rw [if_neg q, if_neg (by omega)]

end Go.Proofs.YtlbanaoabifaiaaDoor
