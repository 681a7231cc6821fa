/- Rectangles: what IntersectRects answers, laid open; comparing two rectangles field by field. No condition. -/
import Derived.Test.YtciodcknobccdaaDoorReD
namespace Go.Proofs.YtciodcknobccdaaDoor
open Go.RowKit
set_option linter.unusedVariables false
set_option linter.unusedSimpArgs false
attribute [local go_sem ↓] Go.wp_at_zero Go.wp_at_succ

theorem set4_all {w : World} {b : Nat} {u0 u1 u2 u3 v0 v1 v2 v3 : Value} (h0 : w.cell? ⟨b, 0, none⟩ = some u0) (h1 : w.cell? ⟨b, 1, none⟩ = some u1) (h2 : w.cell? ⟨b, 2, none⟩ = some u2) (h3 : w.cell? ⟨b, 3, none⟩ = some u3) :
    ((((w.setCell ⟨b, 0, none⟩ v0).setCell ⟨b, 1, none⟩ v1).setCell ⟨b, 2, none⟩ v2).setCell ⟨b, 3, none⟩ v3).cell? ⟨b, 0, none⟩ = some v0 ∧ ((((w.setCell ⟨b, 0, none⟩ v0).setCell ⟨b, 1, none⟩ v1).setCell ⟨b, 2, none⟩ v2).setCell ⟨b, 3, none⟩ v3).cell? ⟨b, 1, none⟩ = some v1 ∧ ((((w.setCell ⟨b, 0, none⟩ v0).setCell ⟨b, 1, none⟩ v1).setCell ⟨b, 2, none⟩ v2).setCell ⟨b, 3, none⟩ v3).cell? ⟨b, 2, none⟩ = some v2 ∧ ((((w.setCell ⟨b, 0, none⟩ v0).setCell ⟨b, 1, none⟩ v1).setCell ⟨b, 2, none⟩ v2).setCell ⟨b, 3, none⟩ v3).cell? ⟨b, 3, none⟩ = some v3 := by
  have o : ∀ (w : World) (i j : Nat) (u v : Value), i ≠ j → w.cell? ⟨b, i, none⟩ = some v → (w.setCell ⟨b, j, none⟩ u).cell? ⟨b, i, none⟩ = some v := fun w i j u v hij hc => by
    rw [World.cell?_setCell_other _ _ _ _ (by simp <;> omega)]; exact hc
  refine ⟨?_, ?_, ?_, ?_⟩
  · exact o _ _ _ _ _ (by omega) (o _ _ _ _ _ (by omega) (o _ _ _ _ _ (by omega) (World.cell?_setCell_same _ _ _ h0)))
  · exact o _ _ _ _ _ (by omega) (o _ _ _ _ _ (by omega) (World.cell?_setCell_same _ _ _ (o _ _ _ _ _ (by omega) h1)))
  · exact o _ _ _ _ _ (by omega) (World.cell?_setCell_same _ _ _ (o _ _ _ _ _ (by omega) (o _ _ _ _ _ (by omega) h2)))
  · exact World.cell?_setCell_same _ _ _ (o _ _ _ _ _ (by omega) (o _ _ _ _ _ (by omega) (o _ _ _ _ _ (by omega) h3)))
theorem set4_0 {w : World} {b : Nat} {u0 u1 u2 u3 v0 v1 v2 v3 : Value} (h0 : w.cell? ⟨b, 0, none⟩ = some u0) (h1 : w.cell? ⟨b, 1, none⟩ = some u1) (h2 : w.cell? ⟨b, 2, none⟩ = some u2) (h3 : w.cell? ⟨b, 3, none⟩ = some u3) :
    ((((w.setCell ⟨b, 0, none⟩ v0).setCell ⟨b, 1, none⟩ v1).setCell ⟨b, 2, none⟩ v2).setCell ⟨b, 3, none⟩ v3).cell? ⟨b, 0, none⟩ = some v0 := (set4_all h0 h1 h2 h3).1
theorem set4_1 {w : World} {b : Nat} {u0 u1 u2 u3 v0 v1 v2 v3 : Value} (h0 : w.cell? ⟨b, 0, none⟩ = some u0) (h1 : w.cell? ⟨b, 1, none⟩ = some u1) (h2 : w.cell? ⟨b, 2, none⟩ = some u2) (h3 : w.cell? ⟨b, 3, none⟩ = some u3) :
    ((((w.setCell ⟨b, 0, none⟩ v0).setCell ⟨b, 1, none⟩ v1).setCell ⟨b, 2, none⟩ v2).setCell ⟨b, 3, none⟩ v3).cell? ⟨b, 1, none⟩ = some v1 := (set4_all h0 h1 h2 h3).2.1
theorem set4_2 {w : World} {b : Nat} {u0 u1 u2 u3 v0 v1 v2 v3 : Value} (h0 : w.cell? ⟨b, 0, none⟩ = some u0) (h1 : w.cell? ⟨b, 1, none⟩ = some u1) (h2 : w.cell? ⟨b, 2, none⟩ = some u2) (h3 : w.cell? ⟨b, 3, none⟩ = some u3) :
    ((((w.setCell ⟨b, 0, none⟩ v0).setCell ⟨b, 1, none⟩ v1).setCell ⟨b, 2, none⟩ v2).setCell ⟨b, 3, none⟩ v3).cell? ⟨b, 2, none⟩ = some v2 := (set4_all h0 h1 h2 h3).2.2.1
theorem set4_3 {w : World} {b : Nat} {u0 u1 u2 u3 v0 v1 v2 v3 : Value} (h0 : w.cell? ⟨b, 0, none⟩ = some u0) (h1 : w.cell? ⟨b, 1, none⟩ = some u1) (h2 : w.cell? ⟨b, 2, none⟩ = some u2) (h3 : w.cell? ⟨b, 3, none⟩ = some u3) :
    ((((w.setCell ⟨b, 0, none⟩ v0).setCell ⟨b, 1, none⟩ v1).setCell ⟨b, 2, none⟩ v2).setCell ⟨b, 3, none⟩ v3).cell? ⟨b, 3, none⟩ = some v3 := (set4_all h0 h1 h2 h3).2.2.2

def ix0 (a b c d p q r s : Int) : Int := if ovB a b c d p q r s = true then hi2 a p else 0
def ix1 (a b c d p q r s : Int) : Int := if ovB a b c d p q r s = true then hi2 b q else 0
def ix2 (a b c d p q r s : Int) : Int := if ovB a b c d p q r s = true then lo2 c r else 0
def ix3 (a b c d p q r s : Int) : Int := if ovB a b c d p q r s = true then lo2 d s else 0
theorem eqRect_any (a b c d p q r s : Int) (w : World) : Calls Tryd.prog 109 #[.agg #[.int .i64 a, .int .i64 b, .int .i64 c, .int .i64 d], .agg #[.int .i64 p, .int .i64 q, .int .i64 r, .int .i64 s]] w fun e w' => e = .returned (.bool (eqRB a b c d p q r s)) ∧ Below w.heap.size w w' := by
  have key : (a = p ∧ b = q ∧ c = r ∧ d = s) ∨ (¬ a = p) ∨ (a = p ∧ ¬ b = q) ∨ (a = p ∧ b = q ∧ ¬ c = r) ∨ (a = p ∧ b = q ∧ c = r ∧ ¬ d = s) := by omega
  rcases key with ⟨h1, h2, h3, h4⟩ | h1 | ⟨h1, h2⟩ | ⟨h1, h2, h3⟩ | ⟨h1, h2, h3, h4⟩
  all_goals
    go_enter Tryd.func109, Tryd.ntmps109
    go_wp2_with fail
    go_ret
    exact ⟨ret_bool (by simp [eqRB, h1]; try omega), by (repeat (first | (with_reducible exact Below.refl _ _) | (with_reducible refine Ext.drewN ?_ _) | (with_reducible refine Below.drew ?_) | (with_reducible refine Ext.alloc ?_ _) | (with_reducible refine Ext.setCell ?_ (by simp; try omega) _) | (with_reducible refine Ext.trans ?_ (by assumption)) | (with_reducible assumption) | exact Below.refl _ _))⟩
end Go.Proofs.YtciodcknobccdaaDoor
