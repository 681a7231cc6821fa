/- Rectangles: area, containment of a unit cell. Conditions: none but those of each theorem. -/
import Derived.Test.YtciodcknobccdaaDoorReB
namespace Go.Proofs.YtciodcknobccdaaDoor
open Go.RowKit
set_option linter.unusedVariables false
set_option linter.unusedSimpArgs false
attribute [local go_sem ↓] Go.wp_at_zero Go.wp_at_succ

def areaV (a b c d : Int) : Int := if rvB a b c d = true then (c - a) * (d - b) else -1
theorem area_bd {a b c d : Int} (h : rvB a b c d = true) : 0 ≤ (c - a) * (d - b) ∧ (c - a) * (d - b) ≤ 6400 := by
  obtain ⟨h1, h2, h3, h4, h5, h6⟩ := rvB_t h
  refine ⟨Int.mul_nonneg (by omega) (by omega), ?_⟩
  have := Int.mul_le_mul (a := c - a) (b := d - b) (c := 80) (d := 80) (by omega) (by omega) (by omega) (by omega)
  omega
theorem specRectArea_any (a b c d : Int) (w : World) : Calls Tryd.prog 102 #[.agg #[.int .i64 a, .int .i64 b, .int .i64 c, .int .i64 d]] w fun e w' => e = .returned (.int .i64 (areaV a b c d)) ∧ Below w.heap.size w w' := by
  unfold areaV
  cases h : rvB a b c d with
  | false =>
    rw [if_neg (by simp)]
    go_enter Tryd.func102, Tryd.ntmps102
    go_wp2_with fail
    go_call (specValidRect_any) as e w1 ⟨rfl, bw1⟩
    obtain ⟨sw1, zw1, cw1, fw1⟩ := bcell bw1
    try simp only [World.size_alloc, World.size_setCell, World.size_drew] at sw1
    try have lw1_w_0 : w.heap.size < w1.heap.size := by omega
    try have lw1_w_1 : w.heap.size + 1 < w1.heap.size := by omega
    try have lw1_w_2 : w.heap.size + 1 + 1 < w1.heap.size := by omega
    try have lw1_w_3 : w.heap.size + 1 + 1 + 1 < w1.heap.size := by omega
    try have lw1_w_4 : w.heap.size + 1 + 1 + 1 + 1 < w1.heap.size := by omega
    try have lw1_w_5 : w.heap.size + 1 + 1 + 1 + 1 + 1 < w1.heap.size := by omega
    try have lw1_w_6 : w.heap.size + 1 + 1 + 1 + 1 + 1 + 1 < w1.heap.size := by omega
    rw [h]
    go_wp2_with fail
    go_ret
    exact ⟨rfl, by (repeat (first | (with_reducible exact Below.refl _ _) | (with_reducible refine Ext.drewN ?_ _) | (with_reducible refine Below.drew ?_) | (with_reducible refine Ext.alloc ?_ _) | (with_reducible refine Ext.setCell ?_ (by simp; try omega) _) | (with_reducible refine Ext.trans ?_ (by assumption)) | (with_reducible assumption) | exact Below.refl _ _))⟩
  | true =>
    rw [if_pos rfl]
    obtain ⟨m1, m2⟩ := area_bd h
    obtain ⟨h1, h2, h3, h4, h5, h6⟩ := rvB_t h
    go_enter Tryd.func102, Tryd.ntmps102
    go_wp2_with fail
    go_call (specValidRect_any) as e w1 ⟨rfl, bw1⟩
    obtain ⟨sw1, zw1, cw1, fw1⟩ := bcell bw1
    try simp only [World.size_alloc, World.size_setCell, World.size_drew] at sw1
    try have lw1_w_0 : w.heap.size < w1.heap.size := by omega
    try have lw1_w_1 : w.heap.size + 1 < w1.heap.size := by omega
    try have lw1_w_2 : w.heap.size + 1 + 1 < w1.heap.size := by omega
    try have lw1_w_3 : w.heap.size + 1 + 1 + 1 < w1.heap.size := by omega
    try have lw1_w_4 : w.heap.size + 1 + 1 + 1 + 1 < w1.heap.size := by omega
    try have lw1_w_5 : w.heap.size + 1 + 1 + 1 + 1 + 1 < w1.heap.size := by omega
    try have lw1_w_6 : w.heap.size + 1 + 1 + 1 + 1 + 1 + 1 < w1.heap.size := by omega
    rw [h]
    go_wp2_with fail
    go_ret
    exact ⟨rfl, by (repeat (first | (with_reducible exact Below.refl _ _) | (with_reducible refine Ext.drewN ?_ _) | (with_reducible refine Below.drew ?_) | (with_reducible refine Ext.alloc ?_ _) | (with_reducible refine Ext.setCell ?_ (by simp; try omega) _) | (with_reducible refine Ext.trans ?_ (by assumption)) | (with_reducible assumption) | exact Below.refl _ _))⟩
def rcB (a b c d x y : Int) : Bool := rvB a b c d && decide (a ≤ x ∧ x < c ∧ b ≤ y ∧ y < d)
theorem inRangeR_any (n lo hi : Int) (w : World) : Calls Tryd.prog 87 #[.int .i64 n, .int .i64 lo, .int .i64 hi] w fun e w' => e = .returned (.bool (inB n lo hi)) ∧ w = w' := by
  by_cases h1 : lo ≤ n
  · by_cases h2 : n ≤ hi
    all_goals
      go_enter Tryd.func87, Tryd.ntmps87
      go_wp2
      go_ret
      exact ⟨ret_bool (by simp [inB, h1, h2]), rfl⟩
  · go_enter Tryd.func87, Tryd.ntmps87
    go_wp2
    go_ret
    exact ⟨ret_bool (inB_f (by omega)).symm, rfl⟩
theorem isUnitCellR_any (x y : Int) (w : World) : Calls Tryd.prog 187 #[.agg #[.int .i64 x, .int .i64 y]] w fun e w' => e = .returned (.bool (inB x (-40) 39 && inB y (-40) 39)) ∧ Below w.heap.size w w' := by
  by_cases h1 : inB x (-40) 39 = true
  all_goals
    go_enter Tryd.func187, Tryd.ntmps187
    go_wp2_with (go_at_call 87; go_call inRangeR_any as e w' ⟨rfl, rfl⟩)
    go_ret
    exact ⟨ret_bool (by simp [h1]), by go_grown⟩

end Go.Proofs.YtciodcknobccdaaDoor
