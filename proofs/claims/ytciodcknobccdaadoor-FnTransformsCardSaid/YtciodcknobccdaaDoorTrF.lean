/- The program's orientations: composing, inverting, images. Condition: the variable orientationMatrices holds its table. -/
import Derived.Test.YtciodcknobccdaaDoorTrE
import Derived.Lib.Hide
namespace Go.Proofs.YtciodcknobccdaaDoor
open Go.RowKit
set_option linter.unusedVariables false
set_option linter.unusedSimpArgs false
attribute [local go_sem ↓] Go.wp_at_zero Go.wp_at_succ

set_option maxHeartbeats 2000000 in
theorem times_any (b n0 n1 n2 n3 : Int) (w : World) (h0 : 0 ≤ b) (h7 : b ≤ 7) (a0 : -1000 ≤ n0) (b0 : n0 ≤ 1000) (a1 : -1000 ≤ n1) (b1 : n1 ≤ 1000) (a2 : -1000 ≤ n2) (b2 : n2 ≤ 1000) (a3 : -1000 ≤ n3) (b3 : n3 ≤ 1000) :
    Calls Tryd.prog 116 #[.agg #[.int .i64 (mr b 0), .int .i64 (mr b 1), .int .i64 (mr b 2), .int .i64 (mr b 3)], .agg #[.int .i64 n0, .int .i64 n1, .int .i64 n2, .int .i64 n3]] w fun e w' => e = .returned (.agg #[.int .i64 (tX b n0 n2), .int .i64 (tX b n1 n3), .int .i64 (tY b n0 n2), .int .i64 (tY b n1 n3)]) ∧ Below w.heap.size w w' := by
  go_enter Tryd.func116, Tryd.ntmps116
  go_wp2_with fail
  go_call (matImage_any) as e w1 ⟨rfl, bw1⟩
  obtain ⟨sw1, zw1, cw1, fw1⟩ := bcell bw1
  try simp only [World.size_alloc, World.size_setCell, World.size_drew] at sw1
  try have lw1_w_0 : w.heap.size < w1.heap.size := by omega
  try have lw1_w_1 : w.heap.size + 1 < w1.heap.size := by omega
  try have lw1_w_2 : w.heap.size + 1 + 1 < w1.heap.size := by omega
  try have lw1_w_3 : w.heap.size + 1 + 1 + 1 < w1.heap.size := by omega
  try have lw1_w_4 : w.heap.size + 1 + 1 + 1 + 1 < w1.heap.size := by omega
  try have lw1_w_5 : w.heap.size + 1 + 1 + 1 + 1 + 1 < w1.heap.size := by omega
  try have lw1_w_6 : w.heap.size + 1 + 1 + 1 + 1 + 1 + 1 < w1.heap.size := by omega
  go_wp2_with fail
  go_call (matImage_any) as e w2 ⟨rfl, bw2⟩
  obtain ⟨sw2, zw2, cw2, fw2⟩ := bcell bw2
  try simp only [World.size_alloc, World.size_setCell, World.size_drew] at sw2
  try have lw2_w_0 : w.heap.size < w2.heap.size := by omega
  try have lw2_w_1 : w.heap.size + 1 < w2.heap.size := by omega
  try have lw2_w_2 : w.heap.size + 1 + 1 < w2.heap.size := by omega
  try have lw2_w_3 : w.heap.size + 1 + 1 + 1 < w2.heap.size := by omega
  try have lw2_w_4 : w.heap.size + 1 + 1 + 1 + 1 < w2.heap.size := by omega
  try have lw2_w_5 : w.heap.size + 1 + 1 + 1 + 1 + 1 < w2.heap.size := by omega
  try have lw2_w_6 : w.heap.size + 1 + 1 + 1 + 1 + 1 + 1 < w2.heap.size := by omega
  try have lw2_w1_0 : w1.heap.size < w2.heap.size := by omega
  try have lw2_w1_1 : w1.heap.size + 1 < w2.heap.size := by omega
  try have lw2_w1_2 : w1.heap.size + 1 + 1 < w2.heap.size := by omega
  try have lw2_w1_3 : w1.heap.size + 1 + 1 + 1 < w2.heap.size := by omega
  try have lw2_w1_4 : w1.heap.size + 1 + 1 + 1 + 1 < w2.heap.size := by omega
  try have lw2_w1_5 : w1.heap.size + 1 + 1 + 1 + 1 + 1 < w2.heap.size := by omega
  try have lw2_w1_6 : w1.heap.size + 1 + 1 + 1 + 1 + 1 + 1 < w2.heap.size := by omega
  go_wp2_with fail
  refine bodyPost_ret (v := .agg #[.int .i64 (tX b n0 n2), .int .i64 (tX b n1 n3), .int .i64 (tY b n0 n2), .int .i64 (tY b n1 n3)]) (by simp [*, results, Tryd.results116, go_sem]) rfl ⟨rfl, ?_⟩
  (repeat (first | (with_reducible exact Below.refl _ _) | (with_reducible refine Ext.drewN ?_ _) | (with_reducible refine Below.drew ?_) | (with_reducible refine Ext.alloc ?_ _) | (with_reducible refine Ext.setCell ?_ (by simp; try omega) _) | (with_reducible refine Ext.trans ?_ (by assumption)) | (with_reducible assumption) | exact Below.refl _ _))

theorem transposed_any (m0 m1 m2 m3 : Int) (w : World) :
    Calls Tryd.prog 90 #[.agg #[.int .i64 m0, .int .i64 m1, .int .i64 m2, .int .i64 m3]] w fun e w' => e = .returned (.agg #[.int .i64 m0, .int .i64 m2, .int .i64 m1, .int .i64 m3]) ∧ Below w.heap.size w w' := by
  go_enter Tryd.func90, Tryd.ntmps90
  go_wp2_with fail
  refine bodyPost_ret (v := .agg #[.int .i64 m0, .int .i64 m2, .int .i64 m1, .int .i64 m3]) (by simp [*, results, Tryd.results90, go_sem]) rfl ⟨rfl, ?_⟩
  (repeat (first | (with_reducible exact Below.refl _ _) | (with_reducible refine Ext.drewN ?_ _) | (with_reducible refine Below.drew ?_) | (with_reducible refine Ext.alloc ?_ _) | (with_reducible refine Ext.setCell ?_ (by simp; try omega) _) | (with_reducible refine Ext.trans ?_ (by assumption)) | (with_reducible assumption) | exact Below.refl _ _))

/-- Orientation a first, then b. -/
def cmpO (a b : Nat) : Nat := if b < 4 then (if a < 4 then (a + b) % 4 else 4 + (a - 4 + b) % 4) else (if a < 4 then 4 + (b - 4 + (4 - a)) % 4 else (b - 4 + (8 - a)) % 4)
def invO (a : Nat) : Nat := if a < 4 then (4 - a) % 4 else a
theorem cmpO_lt : ∀ a b : Nat, a < 8 → b < 8 → cmpO a b < 8 := by
  intro a b ha hb; unfold cmpO; (repeat' split) <;> omega
theorem invO_lt : ∀ a : Nat, a < 8 → invO a < 8 := by
  intro a ha; unfold invO; split <;> omega
theorem mr_cmp : ∀ a b : Nat, a < 8 → b < 8 → tX b (mr a 0) (mr a 2) = mr (cmpO a b) 0 ∧ tX b (mr a 1) (mr a 3) = mr (cmpO a b) 1 ∧ tY b (mr a 0) (mr a 2) = mr (cmpO a b) 2 ∧ tY b (mr a 1) (mr a 3) = mr (cmpO a b) 3 := by
  have h : ∀ a b : Fin 8, tX b (mr a 0) (mr a 2) = mr (cmpO a b) 0 ∧ tX b (mr a 1) (mr a 3) = mr (cmpO a b) 1 ∧ tY b (mr a 0) (mr a 2) = mr (cmpO a b) 2 ∧ tY b (mr a 1) (mr a 3) = mr (cmpO a b) 3 := by decide
  intro a b ha hb
  exact h ⟨a, ha⟩ ⟨b, hb⟩
theorem mr_inv : ∀ a : Nat, a < 8 → mr a 0 = mr (invO a) 0 ∧ mr a 2 = mr (invO a) 1 ∧ mr a 1 = mr (invO a) 2 ∧ mr a 3 = mr (invO a) 3 := by
  have h : ∀ a : Fin 8, mr a 0 = mr (invO a) 0 ∧ mr a 2 = mr (invO a) 1 ∧ mr a 1 = mr (invO a) 2 ∧ mr a 3 = mr (invO a) 3 := by decide
  intro a ha
  exact h ⟨a, ha⟩
theorem mr_bd : ∀ a : Nat, a < 8 → (-1000 ≤ mr a 0 ∧ mr a 0 ≤ 1000) ∧ (-1000 ≤ mr a 1 ∧ mr a 1 ≤ 1000) ∧ (-1000 ≤ mr a 2 ∧ mr a 2 ≤ 1000) ∧ (-1000 ≤ mr a 3 ∧ mr a 3 ≤ 1000) := by
  have h : ∀ a : Fin 8, (-1000 ≤ mr a 0 ∧ mr a 0 ≤ 1000) ∧ (-1000 ≤ mr a 1 ∧ mr a 1 ≤ 1000) ∧ (-1000 ≤ mr a 2 ∧ mr a 2 ≤ 1000) ∧ (-1000 ≤ mr a 3 ∧ mr a 3 ≤ 1000) := by decide
  intro a ha
  exact h ⟨a, ha⟩

set_option maxHeartbeats 2000000 in
theorem inverse_any (a : Nat) (w : World) (ha : a < 8) (hM : Mats w) : Calls Tryd.prog 58 #[.int .i64 a] w fun e w' => e = .returned (.int .i64 (invO a)) ∧ Below w.heap.size w w' := by
  have g0 : w.cell? ⟨0, a * 4, none⟩ = some (.int .i64 (mr a 0)) := mr_cell hM a ha 0 (by omega)
  have g1 := mr_cell hM a ha 1 (by omega)
  have g2 := mr_cell hM a ha 2 (by omega)
  have g3 := mr_cell hM a ha 3 (by omega)
  have b1 : (0 : Int) ≤ (a : Int) := by omega
  have b2 : (a : Int) < 8 := by omega
  have hI := Lib.hid (mr_inv a ha)
  have hi8 := invO_lt a ha
  go_enter Tryd.func58, Tryd.ntmps58
  go_wp2_with fail
  go_call (transposed_any) as e w1 ⟨rfl, bw1⟩
  obtain ⟨sw1, zw1, cw1, fw1⟩ := bcell bw1
  try simp only [World.size_alloc, World.size_setCell, World.size_drew] at sw1
  try have lw1_w_0 : w.heap.size < w1.heap.size := by omega
  try have lw1_w_1 : w.heap.size + 1 < w1.heap.size := by omega
  try have lw1_w_2 : w.heap.size + 1 + 1 < w1.heap.size := by omega
  try have lw1_w_3 : w.heap.size + 1 + 1 + 1 < w1.heap.size := by omega
  try have lw1_w_4 : w.heap.size + 1 + 1 + 1 + 1 < w1.heap.size := by omega
  try have lw1_w_5 : w.heap.size + 1 + 1 + 1 + 1 + 1 < w1.heap.size := by omega
  try have lw1_w_6 : w.heap.size + 1 + 1 + 1 + 1 + 1 + 1 < w1.heap.size := by omega
  go_wp2_with fail
  have hM1 : Mats w1 := hM.below bw1 hM.size
  rw [hI.out.1, hI.out.2.1, hI.out.2.2.1, hI.out.2.2.2]
  go_call (orientationWith_any (invO a)) as e w2 ⟨rfl, bw2⟩
  obtain ⟨sw2, zw2, cw2, fw2⟩ := bcell bw2
  try simp only [World.size_alloc, World.size_setCell, World.size_drew] at sw2
  try have lw2_w_0 : w.heap.size < w2.heap.size := by omega
  try have lw2_w_1 : w.heap.size + 1 < w2.heap.size := by omega
  try have lw2_w_2 : w.heap.size + 1 + 1 < w2.heap.size := by omega
  try have lw2_w_3 : w.heap.size + 1 + 1 + 1 < w2.heap.size := by omega
  try have lw2_w_4 : w.heap.size + 1 + 1 + 1 + 1 < w2.heap.size := by omega
  try have lw2_w_5 : w.heap.size + 1 + 1 + 1 + 1 + 1 < w2.heap.size := by omega
  try have lw2_w_6 : w.heap.size + 1 + 1 + 1 + 1 + 1 + 1 < w2.heap.size := by omega
  try have lw2_w1_0 : w1.heap.size < w2.heap.size := by omega
  try have lw2_w1_1 : w1.heap.size + 1 < w2.heap.size := by omega
  try have lw2_w1_2 : w1.heap.size + 1 + 1 < w2.heap.size := by omega
  try have lw2_w1_3 : w1.heap.size + 1 + 1 + 1 < w2.heap.size := by omega
  try have lw2_w1_4 : w1.heap.size + 1 + 1 + 1 + 1 < w2.heap.size := by omega
  try have lw2_w1_5 : w1.heap.size + 1 + 1 + 1 + 1 + 1 < w2.heap.size := by omega
  try have lw2_w1_6 : w1.heap.size + 1 + 1 + 1 + 1 + 1 + 1 < w2.heap.size := by omega
  go_wp2_with fail
  go_ret
  exact ⟨rfl, by (repeat (first | (with_reducible exact Below.refl _ _) | (with_reducible refine Ext.drewN ?_ _) | (with_reducible refine Below.drew ?_) | (with_reducible refine Ext.alloc ?_ _) | (with_reducible refine Ext.setCell ?_ (by simp; try omega) _) | (with_reducible refine Ext.trans ?_ (by assumption)) | (with_reducible assumption) | exact Below.refl _ _))⟩
end Go.Proofs.YtciodcknobccdaaDoor
