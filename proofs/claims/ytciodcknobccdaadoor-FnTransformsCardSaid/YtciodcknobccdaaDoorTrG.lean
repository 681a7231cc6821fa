/- The program's orientations and transforms: then, images of points. Condition: the variable orientationMatrices holds its table. -/
import Derived.Test.YtciodcknobccdaaDoorTrF
namespace Go.Proofs.YtciodcknobccdaaDoor
open Go.RowKit
set_option linter.unusedVariables false
set_option linter.unusedSimpArgs false
attribute [local go_sem ↓] Go.wp_at_zero Go.wp_at_succ

set_option maxHeartbeats 4000000 in
theorem oImage_any (o : Nat) (x y : Int) (w : World) (ho : o < 8) (hM : Mats w) (hx : -1000000 ≤ x) (hx' : x ≤ 1000000) (hy : -1000000 ≤ y) (hy' : y ≤ 1000000) :
    Calls Tryd.prog 59 #[.int .i64 o, .agg #[.int .i64 x, .int .i64 y]] w fun e w' => e = .returned (.agg #[.int .i64 (tX o x y), .int .i64 (tY o x y)]) ∧ Below w.heap.size w w' := by
  have g0 : w.cell? ⟨0, o * 4, none⟩ = some (.int .i64 (mr o 0)) := mr_cell hM o ho 0 (by omega)
  have g1 := mr_cell hM o ho 1 (by omega)
  have g2 := mr_cell hM o ho 2 (by omega)
  have g3 := mr_cell hM o ho 3 (by omega)
  have b1 : (0 : Int) ≤ (o : Int) := by omega
  have b2 : (o : Int) < 8 := by omega
  have hms := hM.size
  have hmz := hM.ne
  go_enter Tryd.func59, Tryd.ntmps59
  go_wp2_with fail
  go_region_held3 (fun w' => w'.cell? ⟨0, o * 4, none⟩ = some (.int .i64 (mr o 0)) ∧ w'.cell? ⟨0, o * 4 + 1, none⟩ = some (.int .i64 (mr o 1)) ∧ w'.cell? ⟨0, o * 4 + 2, none⟩ = some (.int .i64 (mr o 2)) ∧ w'.cell? ⟨0, o * 4 + 3, none⟩ = some (.int .i64 (mr o 3)) ∧ w'.cell? ⟨w.heap.size, 0, none⟩ = some (.int .i64 x) ∧ w'.cell? ⟨w.heap.size, 1, none⟩ = some (.int .i64 y))
    (first | ((try dsimp only); go_split_ands; (repeat' (with_reducible refine And.intro ?_ ?_)) <;> first | ((repeat (with_reducible refine keepS ?_ (by simp; try omega) _)); (first | (with_reducible assumption) | (with_reducible exact keepC (by assumption) (by assumption)) | (with_reducible exact keepA (by assumption) _) | (with_reducible exact keepR (by assumption) (by omega) _))) | ((try simp only [World.size_alloc, World.size_setCell, World.size_drew]); omega) | (refine Mats.below hM ?_ hM.size; (repeat (first | (with_reducible exact Below.refl _ _) | (with_reducible refine Ext.drewN ?_ _) | (with_reducible refine Below.drew ?_) | (with_reducible refine Ext.alloc ?_ _) | (with_reducible refine Ext.setCell ?_ (by simp; try omega) _) | (with_reducible refine Ext.trans ?_ (by assumption)) | (with_reducible assumption) | exact Below.refl _ _)); done) | ((repeat (first | (with_reducible exact Below.refl _ _) | (with_reducible refine Ext.drewN ?_ _) | (with_reducible refine Below.drew ?_) | (with_reducible refine Ext.alloc ?_ _) | (with_reducible refine Ext.setCell ?_ (by simp; try omega) _) | (with_reducible refine Ext.trans ?_ (by assumption)) | (with_reducible assumption) | exact Below.refl _ _)); done) | (go_keep; done)))
    (first | (go_at_call 91; refine (matImage_any o x y _ b1 (by omega) hx hx' hy hy').mono ?_; rintro e w1 ⟨rfl, bw1⟩; obtain ⟨sw1, zw1, cw1, fw1⟩ := bcell bw1))
  go_wp2_with fail
  refine bodyPost_ret (v := .agg #[.int .i64 (tX o x y), .int .i64 (tY o x y)]) (by simp [*, results, Tryd.results59, go_sem]) rfl ⟨rfl, ?_⟩
  (repeat (first | (with_reducible exact Below.refl _ _) | (with_reducible refine Ext.drewN ?_ _) | (with_reducible refine Below.drew ?_) | (with_reducible refine Ext.alloc ?_ _) | (with_reducible refine Ext.setCell ?_ (by simp; try omega) _) | (with_reducible refine Ext.trans ?_ (by assumption)) | (with_reducible assumption) | exact Below.refl _ _))

set_option maxHeartbeats 4000000 in
theorem then_any (a b : Nat) (w : World) (ha : a < 8) (hb : b < 8) (hM : Mats w) :
    Calls Tryd.prog 88 #[.int .i64 a, .int .i64 b] w fun e w' => e = .returned (.int .i64 (cmpO a b)) ∧ Below w.heap.size w w' := by
  have g0 : w.cell? ⟨0, a * 4, none⟩ = some (.int .i64 (mr a 0)) := mr_cell hM a ha 0 (by omega)
  have g1 := mr_cell hM a ha 1 (by omega)
  have g2 := mr_cell hM a ha 2 (by omega)
  have g3 := mr_cell hM a ha 3 (by omega)
  have k0 : w.cell? ⟨0, b * 4, none⟩ = some (.int .i64 (mr b 0)) := mr_cell hM b hb 0 (by omega)
  have k1 := mr_cell hM b hb 1 (by omega)
  have k2 := mr_cell hM b hb 2 (by omega)
  have k3 := mr_cell hM b hb 3 (by omega)
  have b1 : (0 : Int) ≤ (a : Int) := by omega
  have b2 : (a : Int) < 8 := by omega
  have b3 : (0 : Int) ≤ (b : Int) := by omega
  have b4 : (b : Int) < 8 := by omega
  have hms := hM.size
  have hmz := hM.ne
  obtain ⟨⟨c1, c2⟩, ⟨c3, c4⟩, ⟨c5, c6⟩, c7, c8⟩ := mr_bd a ha
  have hC := Lib.hid (mr_cmp a b ha hb)
  have hlt := cmpO_lt a b ha hb
  go_enter Tryd.func88, Tryd.ntmps88
  go_wp2_with fail
  go_region_held3 (fun w' => Below w.heap.size w w' ∧ w'.cell? ⟨0, a * 4, none⟩ = some (.int .i64 (mr a 0)) ∧ w'.cell? ⟨0, a * 4 + 1, none⟩ = some (.int .i64 (mr a 1)) ∧ w'.cell? ⟨0, a * 4 + 2, none⟩ = some (.int .i64 (mr a 2)) ∧ w'.cell? ⟨0, a * 4 + 3, none⟩ = some (.int .i64 (mr a 3))
      ∧ w'.cell? ⟨0, b * 4, none⟩ = some (.int .i64 (mr b 0)) ∧ w'.cell? ⟨0, b * 4 + 1, none⟩ = some (.int .i64 (mr b 1)) ∧ w'.cell? ⟨0, b * 4 + 2, none⟩ = some (.int .i64 (mr b 2)) ∧ w'.cell? ⟨0, b * 4 + 3, none⟩ = some (.int .i64 (mr b 3)))
    (first | ((try dsimp only); go_split_ands; (repeat' (with_reducible refine And.intro ?_ ?_)) <;> first | ((repeat (with_reducible refine keepS ?_ (by simp; try omega) _)); (first | (with_reducible assumption) | (with_reducible exact keepC (by assumption) (by assumption)) | (with_reducible exact keepA (by assumption) _) | (with_reducible exact keepR (by assumption) (by omega) _))) | ((try simp only [World.size_alloc, World.size_setCell, World.size_drew]); omega) | (refine Mats.below hM ?_ hM.size; (repeat (first | (with_reducible exact Below.refl _ _) | (with_reducible refine Ext.drewN ?_ _) | (with_reducible refine Below.drew ?_) | (with_reducible refine Ext.alloc ?_ _) | (with_reducible refine Ext.setCell ?_ (by simp; try omega) _) | (with_reducible refine Ext.trans ?_ (by assumption)) | (with_reducible assumption) | exact Below.refl _ _)); done) | ((repeat (first | (with_reducible exact Below.refl _ _) | (with_reducible refine Ext.drewN ?_ _) | (with_reducible refine Below.drew ?_) | (with_reducible refine Ext.alloc ?_ _) | (with_reducible refine Ext.setCell ?_ (by simp; try omega) _) | (with_reducible refine Ext.trans ?_ (by assumption)) | (with_reducible assumption) | exact Below.refl _ _)); done) | (go_keep; done)))
    (first | (go_at_call 116; refine (times_any b _ _ _ _ _ b3 (by omega) c1 c2 c3 c4 c5 c6 c7 c8).mono ?_; rintro e w1 ⟨rfl, bw1⟩; rw [hC.out.1, hC.out.2.1, hC.out.2.2.1, hC.out.2.2.2]) | (go_at_call 89; refine (orientationWith_any (cmpO a b) _ hlt ?_).mono ?_; (go_split_ands; refine Mats.below hM ?_ hM.size; assumption); rintro e w2 ⟨rfl, bw2⟩))
  go_wp2_with fail
  go_ret
  exact ⟨rfl, by (repeat (first | (with_reducible exact Below.refl _ _) | (with_reducible refine Ext.drewN ?_ _) | (with_reducible refine Below.drew ?_) | (with_reducible refine Ext.alloc ?_ _) | (with_reducible refine Ext.setCell ?_ (by simp; try omega) _) | (with_reducible refine Ext.trans ?_ (by assumption)) | (with_reducible assumption) | exact Below.refl _ _))⟩
end Go.Proofs.YtciodcknobccdaaDoor
