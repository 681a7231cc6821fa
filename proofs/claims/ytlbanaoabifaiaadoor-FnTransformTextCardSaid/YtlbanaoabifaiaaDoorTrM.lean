/- ComposeTransforms: the model's and the program's. Condition: the variable orientationMatrices holds its table. -/
import Derived.Test.YtlbanaoabifaiaaDoorTrH
import Derived.Test.YtlbanaoabifaiaaDoorTrK
namespace Go.Proofs.YtlbanaoabifaiaaDoor
open Go.RowKit
set_option linter.unusedVariables false
set_option linter.unusedSimpArgs false
attribute [local go_sem ↓] Go.wp_at_zero Go.wp_at_succ

def ctB (o x y p q r : Int) : Bool := vldB o x y && vldB p q r && vldB (cmpO o.toNat p.toNat : Nat) (tX p x y + q) (tY p x y + r)
def ct0 (o x y p q r : Int) : Int := if ctB o x y p q r = true then (cmpO o.toNat p.toNat : Nat) else 0
def ct1 (o x y p q r : Int) : Int := if ctB o x y p q r = true then tX p x y + q else 0
def ct2 (o x y p q r : Int) : Int := if ctB o x y p q r = true then tY p x y + r else 0
theorem ct_yes {o x y p q r : Int} (h : ctB o x y p q r = true) : ct0 o x y p q r = (cmpO o.toNat p.toNat : Nat) ∧ ct1 o x y p q r = tX p x y + q ∧ ct2 o x y p q r = tY p x y + r ∧ ctB o x y p q r = true := by
  simp [ct0, ct1, ct2, h]
theorem ct_no {o x y p q r : Int} (h : ctB o x y p q r = false) : ct0 o x y p q r = 0 ∧ ct1 o x y p q r = 0 ∧ ct2 o x y p q r = 0 ∧ ctB o x y p q r = false := by
  simp [ct0, ct1, ct2, h]

end Go.Proofs.YtlbanaoabifaiaaDoor
