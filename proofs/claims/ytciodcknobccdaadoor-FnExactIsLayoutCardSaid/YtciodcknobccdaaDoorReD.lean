/- Rectangles: overlap, what two have in common, abutment, gaps. Conditions: none but those of each theorem. -/
import Derived.Test.YtciodcknobccdaaDoorReC
namespace Go.Proofs.YtciodcknobccdaaDoor
open Go.RowKit
set_option linter.unusedVariables false
set_option linter.unusedSimpArgs false
attribute [local go_sem ↓] Go.wp_at_zero Go.wp_at_succ

theorem hi2_bd (a p : Int) : a ≤ hi2 a p ∧ p ≤ hi2 a p ∧ (hi2 a p = a ∨ hi2 a p = p) := by
  unfold hi2; split <;> omega
theorem lo2_bd (a p : Int) : lo2 a p ≤ a ∧ lo2 a p ≤ p ∧ (lo2 a p = a ∨ lo2 a p = p) := by
  unfold lo2; split <;> omega

def ovB (a b c d p q r s : Int) : Bool := rvB a b c d && (rvB p q r s && decide (hi2 a p < lo2 c r ∧ hi2 b q < lo2 d s))
theorem ov_meet {a b c d p q r s : Int} (h1 : rvB a b c d = true) (h2 : rvB p q r s = true) : rvB (hi2 a p) (hi2 b q) (lo2 c r) (lo2 d s) = decide (hi2 a p < lo2 c r ∧ hi2 b q < lo2 d s) := by
  have i := rvB_t h1
  have j := rvB_t h2
  have k1 := hi2_bd a p
  have k2 := hi2_bd b q
  have k3 := lo2_bd c r
  have k4 := lo2_bd d s
  unfold rvB
  rw [decide_eq_decide]
  omega

def ixV (a b c d p q r s : Int) : Value := .tuple #[.agg #[.int .i64 (if ovB a b c d p q r s = true then hi2 a p else 0), .int .i64 (if ovB a b c d p q r s = true then hi2 b q else 0), .int .i64 (if ovB a b c d p q r s = true then lo2 c r else 0), .int .i64 (if ovB a b c d p q r s = true then lo2 d s else 0)], .bool (ovB a b c d p q r s)]
theorem ixV_no {a b c d p q r s : Int} (h : ovB a b c d p q r s = false) : ixV a b c d p q r s = .tuple #[.agg #[.int .i64 0, .int .i64 0, .int .i64 0, .int .i64 0], .bool false] := by simp [ixV, h]
theorem ixV_yes {a b c d p q r s : Int} (h : ovB a b c d p q r s = true) : ixV a b c d p q r s = .tuple #[.agg #[.int .i64 (hi2 a p), .int .i64 (hi2 b q), .int .i64 (lo2 c r), .int .i64 (lo2 d s)], .bool true] := by simp [ixV, h]

theorem ret_ix {a b c d p q r s : Int} {v : Bool} (h0 : a = p) (h1 : b = q) (h2 : c = r) (h3 : d = s) : Ending.returned (.tuple #[.agg #[.int .i64 a, .int .i64 b, .int .i64 c, .int .i64 d], .bool v]) = .returned (.tuple #[.agg #[.int .i64 p, .int .i64 q, .int .i64 r, .int .i64 s], .bool v]) := by rw [h0, h1, h2, h3]
theorem areValid2_any (a b c d p q r s : Int) (v : Bool) (m : Option Addr) (cap : Nat) (w : World) (hC : ChipW w) (hv : (rvB a b c d && rvB p q r s) = v) (hR : RectsIs w.heap.size w m 2 (pick a p) (pick b q) (pick c r) (pick d s)) :
    Calls Tryd.prog 149 #[.slice m 2 cap] w fun e w' => e = .returned (.bool v) ∧ Below w.heap.size w w' := by
  have h := areValid_any m 2 cap (pick a p) (pick b q) (pick c r) (pick d s) w hC (by omega) hR
  rw [allV2, hv] at h
  exact h

end Go.Proofs.YtciodcknobccdaaDoor
