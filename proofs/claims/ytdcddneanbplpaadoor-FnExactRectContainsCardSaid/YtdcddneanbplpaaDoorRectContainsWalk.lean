/- The walk of the exact law of RectContains. No condition. -/
import Derived.Test.YtdcddneanbplpaaDoorReC
namespace Go.Proofs.YtdcddneanbplpaaDoor
open Go.RowKit
set_option linter.unusedVariables false
set_option linter.unusedSimpArgs false
theorem walkRectContains (a b c d x y : Int) (w : World) (hC : ChipW w) : Calls Tryd.prog 5 #[.agg #[.int .i64 a, .int .i64 b, .int .i64 c, .int .i64 d], .int .i64 x, .int .i64 y] w fun e w' => e = .returned (.bool true) ∧ Below w.heap.size w w' := by
  go_enter Tryd.func5, Tryd.ntmps5
  go_wp2_with fail
  go_call (toRect_any) as e w1 ⟨rfl, bw1⟩
  obtain ⟨sw1, zw1, cw1, fw1⟩ := bcell bw1
  try simp only [World.size_alloc, World.size_setCell, World.size_drew] at sw1
  try have lw1_w_0 : w.heap.size < w1.heap.size := by omega
  try have lw1_w_1 : w.heap.size + 1 < w1.heap.size := by omega
  try have lw1_w_2 : w.heap.size + 1 + 1 < w1.heap.size := by omega
  try have lw1_w_3 : w.heap.size + 1 + 1 + 1 < w1.heap.size := by omega
  try have lw1_w_4 : w.heap.size + 1 + 1 + 1 + 1 < w1.heap.size := by omega
  try have lw1_w_5 : w.heap.size + 1 + 1 + 1 + 1 + 1 < w1.heap.size := by omega
  try have lw1_w_6 : w.heap.size + 1 + 1 + 1 + 1 + 1 + 1 < w1.heap.size := by omega
  go_wp2_with fail
  go_call (specRectContains_any) as e w2 ⟨rfl, bw2⟩
  obtain ⟨sw2, zw2, cw2, fw2⟩ := bcell bw2
  try simp only [World.size_alloc, World.size_setCell, World.size_drew] at sw2
  try have lw2_w_0 : w.heap.size < w2.heap.size := by omega
  try have lw2_w_1 : w.heap.size + 1 < w2.heap.size := by omega
  try have lw2_w_2 : w.heap.size + 1 + 1 < w2.heap.size := by omega
  try have lw2_w_3 : w.heap.size + 1 + 1 + 1 < w2.heap.size := by omega
  try have lw2_w_4 : w.heap.size + 1 + 1 + 1 + 1 < w2.heap.size := by omega
  try have lw2_w_5 : w.heap.size + 1 + 1 + 1 + 1 + 1 < w2.heap.size := by omega
  try have lw2_w_6 : w.heap.size + 1 + 1 + 1 + 1 + 1 + 1 < w2.heap.size := by omega
  try have lw2_w1_0 : w1.heap.size < w2.heap.size := by omega
  try have lw2_w1_1 : w1.heap.size + 1 < w2.heap.size := by omega
  try have lw2_w1_2 : w1.heap.size + 1 + 1 < w2.heap.size := by omega
  try have lw2_w1_3 : w1.heap.size + 1 + 1 + 1 < w2.heap.size := by omega
  try have lw2_w1_4 : w1.heap.size + 1 + 1 + 1 + 1 < w2.heap.size := by omega
  try have lw2_w1_5 : w1.heap.size + 1 + 1 + 1 + 1 + 1 < w2.heap.size := by omega
  try have lw2_w1_6 : w1.heap.size + 1 + 1 + 1 + 1 + 1 + 1 < w2.heap.size := by omega
  go_wp2_with fail
  go_call (toRect_any) as e w3 ⟨rfl, bw3⟩
  obtain ⟨sw3, zw3, cw3, fw3⟩ := bcell bw3
  try simp only [World.size_alloc, World.size_setCell, World.size_drew] at sw3
  try have lw3_w_0 : w.heap.size < w3.heap.size := by omega
  try have lw3_w_1 : w.heap.size + 1 < w3.heap.size := by omega
  try have lw3_w_2 : w.heap.size + 1 + 1 < w3.heap.size := by omega
  try have lw3_w_3 : w.heap.size + 1 + 1 + 1 < w3.heap.size := by omega
  try have lw3_w_4 : w.heap.size + 1 + 1 + 1 + 1 < w3.heap.size := by omega
  try have lw3_w_5 : w.heap.size + 1 + 1 + 1 + 1 + 1 < w3.heap.size := by omega
  try have lw3_w_6 : w.heap.size + 1 + 1 + 1 + 1 + 1 + 1 < w3.heap.size := by omega
  try have lw3_w1_0 : w1.heap.size < w3.heap.size := by omega
  try have lw3_w1_1 : w1.heap.size + 1 < w3.heap.size := by omega
  try have lw3_w1_2 : w1.heap.size + 1 + 1 < w3.heap.size := by omega
  try have lw3_w1_3 : w1.heap.size + 1 + 1 + 1 < w3.heap.size := by omega
  try have lw3_w1_4 : w1.heap.size + 1 + 1 + 1 + 1 < w3.heap.size := by omega
  try have lw3_w1_5 : w1.heap.size + 1 + 1 + 1 + 1 + 1 < w3.heap.size := by omega
  try have lw3_w1_6 : w1.heap.size + 1 + 1 + 1 + 1 + 1 + 1 < w3.heap.size := by omega
  try have lw3_w2_0 : w2.heap.size < w3.heap.size := by omega
  try have lw3_w2_1 : w2.heap.size + 1 < w3.heap.size := by omega
  try have lw3_w2_2 : w2.heap.size + 1 + 1 < w3.heap.size := by omega
  try have lw3_w2_3 : w2.heap.size + 1 + 1 + 1 < w3.heap.size := by omega
  try have lw3_w2_4 : w2.heap.size + 1 + 1 + 1 + 1 < w3.heap.size := by omega
  try have lw3_w2_5 : w2.heap.size + 1 + 1 + 1 + 1 + 1 < w3.heap.size := by omega
  try have lw3_w2_6 : w2.heap.size + 1 + 1 + 1 + 1 + 1 + 1 < w3.heap.size := by omega
  go_wp2_with fail
  go_call (implRectContains_any _ _ _ _ _ _ _ (hC.ext (by (repeat (first | (with_reducible exact Below.refl _ _) | (with_reducible refine Ext.drewN ?_ _) | (with_reducible refine Below.drew ?_) | (with_reducible refine Ext.alloc ?_ _) | (with_reducible refine Ext.setCell ?_ (by simp; try omega) _) | (with_reducible refine Ext.trans ?_ (by assumption)) | (with_reducible assumption) | exact Below.refl _ _))))) as e w4 ⟨rfl, bw4⟩
  obtain ⟨sw4, zw4, cw4, fw4⟩ := bcell bw4
  try simp only [World.size_alloc, World.size_setCell, World.size_drew] at sw4
  try have lw4_w_0 : w.heap.size < w4.heap.size := by omega
  try have lw4_w_1 : w.heap.size + 1 < w4.heap.size := by omega
  try have lw4_w_2 : w.heap.size + 1 + 1 < w4.heap.size := by omega
  try have lw4_w_3 : w.heap.size + 1 + 1 + 1 < w4.heap.size := by omega
  try have lw4_w_4 : w.heap.size + 1 + 1 + 1 + 1 < w4.heap.size := by omega
  try have lw4_w_5 : w.heap.size + 1 + 1 + 1 + 1 + 1 < w4.heap.size := by omega
  try have lw4_w_6 : w.heap.size + 1 + 1 + 1 + 1 + 1 + 1 < w4.heap.size := by omega
  try have lw4_w1_0 : w1.heap.size < w4.heap.size := by omega
  try have lw4_w1_1 : w1.heap.size + 1 < w4.heap.size := by omega
  try have lw4_w1_2 : w1.heap.size + 1 + 1 < w4.heap.size := by omega
  try have lw4_w1_3 : w1.heap.size + 1 + 1 + 1 < w4.heap.size := by omega
  try have lw4_w1_4 : w1.heap.size + 1 + 1 + 1 + 1 < w4.heap.size := by omega
  try have lw4_w1_5 : w1.heap.size + 1 + 1 + 1 + 1 + 1 < w4.heap.size := by omega
  try have lw4_w1_6 : w1.heap.size + 1 + 1 + 1 + 1 + 1 + 1 < w4.heap.size := by omega
  try have lw4_w2_0 : w2.heap.size < w4.heap.size := by omega
  try have lw4_w2_1 : w2.heap.size + 1 < w4.heap.size := by omega
  try have lw4_w2_2 : w2.heap.size + 1 + 1 < w4.heap.size := by omega
  try have lw4_w2_3 : w2.heap.size + 1 + 1 + 1 < w4.heap.size := by omega
  try have lw4_w2_4 : w2.heap.size + 1 + 1 + 1 + 1 < w4.heap.size := by omega
  try have lw4_w2_5 : w2.heap.size + 1 + 1 + 1 + 1 + 1 < w4.heap.size := by omega
  try have lw4_w2_6 : w2.heap.size + 1 + 1 + 1 + 1 + 1 + 1 < w4.heap.size := by omega
  try have lw4_w3_0 : w3.heap.size < w4.heap.size := by omega
  try have lw4_w3_1 : w3.heap.size + 1 < w4.heap.size := by omega
  try have lw4_w3_2 : w3.heap.size + 1 + 1 < w4.heap.size := by omega
  try have lw4_w3_3 : w3.heap.size + 1 + 1 + 1 < w4.heap.size := by omega
  try have lw4_w3_4 : w3.heap.size + 1 + 1 + 1 + 1 < w4.heap.size := by omega
  try have lw4_w3_5 : w3.heap.size + 1 + 1 + 1 + 1 + 1 < w4.heap.size := by omega
  try have lw4_w3_6 : w3.heap.size + 1 + 1 + 1 + 1 + 1 + 1 < w4.heap.size := by omega
  go_wp2_with fail
  go_ret
  exact ⟨rfl, by (repeat (first | (with_reducible exact Below.refl _ _) | (with_reducible refine Ext.drewN ?_ _) | (with_reducible refine Below.drew ?_) | (with_reducible refine Ext.alloc ?_ _) | (with_reducible refine Ext.setCell ?_ (by simp; try omega) _) | (with_reducible refine Ext.trans ?_ (by assumption)) | (with_reducible assumption) | exact Below.refl _ _))⟩
end Go.Proofs.YtdcddneanbplpaaDoor
