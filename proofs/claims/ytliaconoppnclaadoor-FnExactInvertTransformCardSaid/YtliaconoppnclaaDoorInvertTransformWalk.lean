/- The walk of FnExactInvertTransform. Condition: the variable orientationMatrices holds its table. -/
import Derived.Test.YtliaconoppnclaaDoorTrP
namespace Go.Proofs.YtliaconoppnclaaDoor
open Go.RowKit
set_option linter.unusedVariables false
set_option linter.unusedSimpArgs false
set_option maxHeartbeats 4000000 in
theorem walkIT (o x y : Int) (w : World) (hM : Mats w) : Calls Tryd.prog 8 #[.agg #[.int .i64 o, .int .i64 x, .int .i64 y]] w fun e w' => e = .returned (.bool true) ∧ Below w.heap.size w w' := by
  have he : eqTB (it0 o x y) (it1 o x y) (it2 o x y) (it0 o x y) (it1 o x y) (it2 o x y) = true := by simp [eqTB]
  go_enter Tryd.func8, Tryd.ntmps8
  go_wp2_with fail
  go_call (toTransform_any) as e w1 ⟨rfl, bw1⟩
  obtain ⟨sw1, zw1, cw1, fw1⟩ := bcell bw1
  try simp only [World.size_alloc, World.size_setCell, World.size_drew] at sw1
  try have lw1_w_0 : w.heap.size < w1.heap.size := by omega
  try have lw1_w_1 : w.heap.size + 1 < w1.heap.size := by omega
  try have lw1_w_2 : w.heap.size + 1 + 1 < w1.heap.size := by omega
  try have lw1_w_3 : w.heap.size + 1 + 1 + 1 < w1.heap.size := by omega
  try have lw1_w_4 : w.heap.size + 1 + 1 + 1 + 1 < w1.heap.size := by omega
  try have lw1_w_5 : w.heap.size + 1 + 1 + 1 + 1 + 1 < w1.heap.size := by omega
  try have lw1_w_6 : w.heap.size + 1 + 1 + 1 + 1 + 1 + 1 < w1.heap.size := by omega
  go_wp2_with fail
  go_call (specIT_out) as e w2 ⟨rfl, bw2⟩
  obtain ⟨sw2, zw2, cw2, fw2⟩ := bcell bw2
  try simp only [World.size_alloc, World.size_setCell, World.size_drew] at sw2
  try have lw2_w_0 : w.heap.size < w2.heap.size := by omega
  try have lw2_w_1 : w.heap.size + 1 < w2.heap.size := by omega
  try have lw2_w_2 : w.heap.size + 1 + 1 < w2.heap.size := by omega
  try have lw2_w_3 : w.heap.size + 1 + 1 + 1 < w2.heap.size := by omega
  try have lw2_w_4 : w.heap.size + 1 + 1 + 1 + 1 < w2.heap.size := by omega
  try have lw2_w_5 : w.heap.size + 1 + 1 + 1 + 1 + 1 < w2.heap.size := by omega
  try have lw2_w_6 : w.heap.size + 1 + 1 + 1 + 1 + 1 + 1 < w2.heap.size := by omega
  try have lw2_w1_0 : w1.heap.size < w2.heap.size := by omega
  try have lw2_w1_1 : w1.heap.size + 1 < w2.heap.size := by omega
  try have lw2_w1_2 : w1.heap.size + 1 + 1 < w2.heap.size := by omega
  try have lw2_w1_3 : w1.heap.size + 1 + 1 + 1 < w2.heap.size := by omega
  try have lw2_w1_4 : w1.heap.size + 1 + 1 + 1 + 1 < w2.heap.size := by omega
  try have lw2_w1_5 : w1.heap.size + 1 + 1 + 1 + 1 + 1 < w2.heap.size := by omega
  try have lw2_w1_6 : w1.heap.size + 1 + 1 + 1 + 1 + 1 + 1 < w2.heap.size := by omega
  go_wp2_with fail
  go_call (toTransform_any) as e w3 ⟨rfl, bw3⟩
  obtain ⟨sw3, zw3, cw3, fw3⟩ := bcell bw3
  try simp only [World.size_alloc, World.size_setCell, World.size_drew] at sw3
  try have lw3_w_0 : w.heap.size < w3.heap.size := by omega
  try have lw3_w_1 : w.heap.size + 1 < w3.heap.size := by omega
  try have lw3_w_2 : w.heap.size + 1 + 1 < w3.heap.size := by omega
  try have lw3_w_3 : w.heap.size + 1 + 1 + 1 < w3.heap.size := by omega
  try have lw3_w_4 : w.heap.size + 1 + 1 + 1 + 1 < w3.heap.size := by omega
  try have lw3_w_5 : w.heap.size + 1 + 1 + 1 + 1 + 1 < w3.heap.size := by omega
  try have lw3_w_6 : w.heap.size + 1 + 1 + 1 + 1 + 1 + 1 < w3.heap.size := by omega
  try have lw3_w1_0 : w1.heap.size < w3.heap.size := by omega
  try have lw3_w1_1 : w1.heap.size + 1 < w3.heap.size := by omega
  try have lw3_w1_2 : w1.heap.size + 1 + 1 < w3.heap.size := by omega
  try have lw3_w1_3 : w1.heap.size + 1 + 1 + 1 < w3.heap.size := by omega
  try have lw3_w1_4 : w1.heap.size + 1 + 1 + 1 + 1 < w3.heap.size := by omega
  try have lw3_w1_5 : w1.heap.size + 1 + 1 + 1 + 1 + 1 < w3.heap.size := by omega
  try have lw3_w1_6 : w1.heap.size + 1 + 1 + 1 + 1 + 1 + 1 < w3.heap.size := by omega
  try have lw3_w2_0 : w2.heap.size < w3.heap.size := by omega
  try have lw3_w2_1 : w2.heap.size + 1 < w3.heap.size := by omega
  try have lw3_w2_2 : w2.heap.size + 1 + 1 < w3.heap.size := by omega
  try have lw3_w2_3 : w2.heap.size + 1 + 1 + 1 < w3.heap.size := by omega
  try have lw3_w2_4 : w2.heap.size + 1 + 1 + 1 + 1 < w3.heap.size := by omega
  try have lw3_w2_5 : w2.heap.size + 1 + 1 + 1 + 1 + 1 < w3.heap.size := by omega
  try have lw3_w2_6 : w2.heap.size + 1 + 1 + 1 + 1 + 1 + 1 < w3.heap.size := by omega
  have hM3 : Mats w3 := by
    refine hM.below ?_ hM.size
    (repeat (first | (with_reducible exact Below.refl _ _) | (with_reducible refine Ext.drewN ?_ _) | (with_reducible refine Below.drew ?_) | (with_reducible refine Ext.alloc ?_ _) | (with_reducible refine Ext.setCell ?_ (by simp; try omega) _) | (with_reducible refine Ext.trans ?_ (by assumption)) | (with_reducible assumption) | exact Below.refl _ _))
  have x0 : w3.cell? ⟨w2.heap.size, 0, none⟩ = some (.int .i64 (it0 o x y)) := keepC bw3 (by simp)
  have x1 : w3.cell? ⟨w2.heap.size, 1, none⟩ = some (.int .i64 (it1 o x y)) := keepC bw3 (by simp)
  have x2 : w3.cell? ⟨w2.heap.size, 2, none⟩ = some (.int .i64 (it2 o x y)) := keepC bw3 (by simp)
  go_wp2_with fail
  go_call (implIT_out) as e w4 ⟨rfl, bw4⟩
  obtain ⟨sw4, zw4, cw4, fw4⟩ := bcell bw4
  try simp only [World.size_alloc, World.size_setCell, World.size_drew] at sw4
  try have lw4_w_0 : w.heap.size < w4.heap.size := by omega
  try have lw4_w_1 : w.heap.size + 1 < w4.heap.size := by omega
  try have lw4_w_2 : w.heap.size + 1 + 1 < w4.heap.size := by omega
  try have lw4_w_3 : w.heap.size + 1 + 1 + 1 < w4.heap.size := by omega
  try have lw4_w_4 : w.heap.size + 1 + 1 + 1 + 1 < w4.heap.size := by omega
  try have lw4_w_5 : w.heap.size + 1 + 1 + 1 + 1 + 1 < w4.heap.size := by omega
  try have lw4_w_6 : w.heap.size + 1 + 1 + 1 + 1 + 1 + 1 < w4.heap.size := by omega
  try have lw4_w1_0 : w1.heap.size < w4.heap.size := by omega
  try have lw4_w1_1 : w1.heap.size + 1 < w4.heap.size := by omega
  try have lw4_w1_2 : w1.heap.size + 1 + 1 < w4.heap.size := by omega
  try have lw4_w1_3 : w1.heap.size + 1 + 1 + 1 < w4.heap.size := by omega
  try have lw4_w1_4 : w1.heap.size + 1 + 1 + 1 + 1 < w4.heap.size := by omega
  try have lw4_w1_5 : w1.heap.size + 1 + 1 + 1 + 1 + 1 < w4.heap.size := by omega
  try have lw4_w1_6 : w1.heap.size + 1 + 1 + 1 + 1 + 1 + 1 < w4.heap.size := by omega
  try have lw4_w2_0 : w2.heap.size < w4.heap.size := by omega
  try have lw4_w2_1 : w2.heap.size + 1 < w4.heap.size := by omega
  try have lw4_w2_2 : w2.heap.size + 1 + 1 < w4.heap.size := by omega
  try have lw4_w2_3 : w2.heap.size + 1 + 1 + 1 < w4.heap.size := by omega
  try have lw4_w2_4 : w2.heap.size + 1 + 1 + 1 + 1 < w4.heap.size := by omega
  try have lw4_w2_5 : w2.heap.size + 1 + 1 + 1 + 1 + 1 < w4.heap.size := by omega
  try have lw4_w2_6 : w2.heap.size + 1 + 1 + 1 + 1 + 1 + 1 < w4.heap.size := by omega
  try have lw4_w3_0 : w3.heap.size < w4.heap.size := by omega
  try have lw4_w3_1 : w3.heap.size + 1 < w4.heap.size := by omega
  try have lw4_w3_2 : w3.heap.size + 1 + 1 < w4.heap.size := by omega
  try have lw4_w3_3 : w3.heap.size + 1 + 1 + 1 < w4.heap.size := by omega
  try have lw4_w3_4 : w3.heap.size + 1 + 1 + 1 + 1 < w4.heap.size := by omega
  try have lw4_w3_5 : w3.heap.size + 1 + 1 + 1 + 1 + 1 < w4.heap.size := by omega
  try have lw4_w3_6 : w3.heap.size + 1 + 1 + 1 + 1 + 1 + 1 < w4.heap.size := by omega
  have y0 := keepC bw4 x0
  have y1 := keepC bw4 x1
  have y2 := keepC bw4 x2
  go_wp2_with fail
  go_call (eqTransform_any) as e w5 ⟨rfl, bw5⟩
  obtain ⟨sw5, zw5, cw5, fw5⟩ := bcell bw5
  try simp only [World.size_alloc, World.size_setCell, World.size_drew] at sw5
  try have lw5_w_0 : w.heap.size < w5.heap.size := by omega
  try have lw5_w_1 : w.heap.size + 1 < w5.heap.size := by omega
  try have lw5_w_2 : w.heap.size + 1 + 1 < w5.heap.size := by omega
  try have lw5_w_3 : w.heap.size + 1 + 1 + 1 < w5.heap.size := by omega
  try have lw5_w_4 : w.heap.size + 1 + 1 + 1 + 1 < w5.heap.size := by omega
  try have lw5_w_5 : w.heap.size + 1 + 1 + 1 + 1 + 1 < w5.heap.size := by omega
  try have lw5_w_6 : w.heap.size + 1 + 1 + 1 + 1 + 1 + 1 < w5.heap.size := by omega
  try have lw5_w1_0 : w1.heap.size < w5.heap.size := by omega
  try have lw5_w1_1 : w1.heap.size + 1 < w5.heap.size := by omega
  try have lw5_w1_2 : w1.heap.size + 1 + 1 < w5.heap.size := by omega
  try have lw5_w1_3 : w1.heap.size + 1 + 1 + 1 < w5.heap.size := by omega
  try have lw5_w1_4 : w1.heap.size + 1 + 1 + 1 + 1 < w5.heap.size := by omega
  try have lw5_w1_5 : w1.heap.size + 1 + 1 + 1 + 1 + 1 < w5.heap.size := by omega
  try have lw5_w1_6 : w1.heap.size + 1 + 1 + 1 + 1 + 1 + 1 < w5.heap.size := by omega
  try have lw5_w2_0 : w2.heap.size < w5.heap.size := by omega
  try have lw5_w2_1 : w2.heap.size + 1 < w5.heap.size := by omega
  try have lw5_w2_2 : w2.heap.size + 1 + 1 < w5.heap.size := by omega
  try have lw5_w2_3 : w2.heap.size + 1 + 1 + 1 < w5.heap.size := by omega
  try have lw5_w2_4 : w2.heap.size + 1 + 1 + 1 + 1 < w5.heap.size := by omega
  try have lw5_w2_5 : w2.heap.size + 1 + 1 + 1 + 1 + 1 < w5.heap.size := by omega
  try have lw5_w2_6 : w2.heap.size + 1 + 1 + 1 + 1 + 1 + 1 < w5.heap.size := by omega
  try have lw5_w3_0 : w3.heap.size < w5.heap.size := by omega
  try have lw5_w3_1 : w3.heap.size + 1 < w5.heap.size := by omega
  try have lw5_w3_2 : w3.heap.size + 1 + 1 < w5.heap.size := by omega
  try have lw5_w3_3 : w3.heap.size + 1 + 1 + 1 < w5.heap.size := by omega
  try have lw5_w3_4 : w3.heap.size + 1 + 1 + 1 + 1 < w5.heap.size := by omega
  try have lw5_w3_5 : w3.heap.size + 1 + 1 + 1 + 1 + 1 < w5.heap.size := by omega
  try have lw5_w3_6 : w3.heap.size + 1 + 1 + 1 + 1 + 1 + 1 < w5.heap.size := by omega
  try have lw5_w4_0 : w4.heap.size < w5.heap.size := by omega
  try have lw5_w4_1 : w4.heap.size + 1 < w5.heap.size := by omega
  try have lw5_w4_2 : w4.heap.size + 1 + 1 < w5.heap.size := by omega
  try have lw5_w4_3 : w4.heap.size + 1 + 1 + 1 < w5.heap.size := by omega
  try have lw5_w4_4 : w4.heap.size + 1 + 1 + 1 + 1 < w5.heap.size := by omega
  try have lw5_w4_5 : w4.heap.size + 1 + 1 + 1 + 1 + 1 < w5.heap.size := by omega
  try have lw5_w4_6 : w4.heap.size + 1 + 1 + 1 + 1 + 1 + 1 < w5.heap.size := by omega
  go_wp2_with fail
  go_ret
  exact ⟨rfl, by (repeat (first | (with_reducible exact Below.refl _ _) | (with_reducible refine Ext.drewN ?_ _) | (with_reducible refine Below.drew ?_) | (with_reducible refine Ext.alloc ?_ _) | (with_reducible refine Ext.setCell ?_ (by simp; try omega) _) | (with_reducible refine Ext.trans ?_ (by assumption)) | (with_reducible assumption) | exact Below.refl _ _))⟩
end Go.Proofs.YtliaconoppnclaaDoor
