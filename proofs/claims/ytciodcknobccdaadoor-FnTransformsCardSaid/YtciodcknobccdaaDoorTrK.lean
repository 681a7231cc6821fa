/- The composition of orientations: the model's search and the program's matrices. Condition: the variable orientationMatrices holds its table. -/
import Derived.Test.YtciodcknobccdaaDoorTrG
namespace Go.Proofs.YtciodcknobccdaaDoor
open Go.RowKit
set_option linter.unusedVariables false
set_option linter.unusedSimpArgs false
attribute [local go_sem ↓] Go.wp_at_zero Go.wp_at_succ

theorem eqPt (a b c d : Int) (w : World) : (Op.equalIn 10000 44 (.agg #[.int .i64 a, .int .i64 b]) (.agg #[.int .i64 c, .int .i64 d])).run Tryd.prog w = .ok (a == c && b == d) w := by
  have hq : ∀ (a b : Int) (w : World), (Op.equalIn 9999 2 (.int .i64 a) (.int .i64 b)).run Tryd.prog w = .ok (a == b) w := fun a b w => run_equalIn_int w 9998 _ _ .i64 a b Tryd.underlying2
  have hs : Tryd.prog.stoodInHeld 44 = false := by kernel_rfl
  have hu : Tryd.prog.underlying 44 = some (.struct (Tryd.prog.fieldsOf 44)) := by kernel_rfl
  rw [run_equalIn_agg w 9999 _ _ _ hu hs]
  have hp : ∀ (x0 x1 : Int) (w : World), (part 2 #[.int .i64 x0, .int .i64 x1] 0).run Tryd.prog w = .ok (.int .i64 x0) w ∧ (part 2 #[.int .i64 x0, .int .i64 x1] 1).run Tryd.prog w = .ok (.int .i64 x1) w :=
    fun _ _ _ => ⟨by kernel_rfl, by kernel_rfl⟩
  have hf : (Tryd.prog.fieldsOf 44).toList.map (fun f => (f.name, f.type, f.offset)) = [("X", 2, 0), ("Y", 2, 1)] := by kernel_rfl
  generalize (Tryd.prog.fieldsOf 44).toList = fs at hf
  rcases fs with _ | ⟨f0, _ | ⟨f1, _ | ⟨f2, r⟩⟩⟩
  · simp at hf
  · simp at hf
  · simp only [List.map_cons, List.map_nil, List.cons.injEq, Prod.mk.injEq, and_true] at hf
    obtain ⟨⟨n0, t0, o0⟩, n1, t1, o1⟩ := hf
    simp only [Op.eqFields, n0, t0, o0, n1, t1, o1]
    simp only [ne_eq, String.reduceEq, not_false_eq_true, if_true, Sem.run_bind, (hp _ _ _).1, (hp _ _ _).2, Result.andThen_ok, hq, Sem.run_ite, Sem.run_pure]
    cases h0 : a == c <;> cases h1 : b == d <;> simp
  · simp at hf

theorem turn_cmp : ∀ a b : Nat, a < 8 → b < 8 → tX b (tX a 1 2) (tY a 1 2) = tX (cmpO a b) 1 2 ∧ tY b (tX a 1 2) (tY a 1 2) = tY (cmpO a b) 1 2 := by
  have h : ∀ a b : Fin 8, tX b (tX a 1 2) (tY a 1 2) = tX (cmpO a b) 1 2 ∧ tY b (tX a 1 2) (tY a 1 2) = tY (cmpO a b) 1 2 := by decide
  intro a b ha hb
  exact h ⟨a, ha⟩ ⟨b, hb⟩
theorem turn_inj : ∀ k c : Nat, k < 8 → c < 8 → (tX k 1 2 == tX c 1 2 && tY k 1 2 == tY c 1 2) = decide (k = c) := by
  have h : ∀ k c : Fin 8, (tX k 1 2 == tX c 1 2 && tY k 1 2 == tY c 1 2) = decide (k.1 = c.1) := by decide
  intro k c hk hc
  exact h ⟨k, hk⟩ ⟨c, hc⟩

set_option maxHeartbeats 4000000 in
theorem l01Same_any (a b : Nat) (w : World) (ha : a < 8) (hb : b < 8) : Calls Tryd.prog 54 #[.int .i64 a, .int .i64 b] w fun e w' => e = .returned (.int .i64 (cmpO a b)) ∧ Below w.heap.size w w' := by
  have hC := Lib.hid (turn_cmp a b ha hb)
  have hlt := cmpO_lt a b ha hb
  obtain ⟨⟨t1, t2⟩, t3, t4⟩ := t_bd a 1 2 2 (by omega) (by omega) (by omega) (by omega)
  go_enter Tryd.func54, Tryd.ntmps54
  go_wp2_with fail
  go_call (turn_any) as e w1 ⟨rfl, bw1⟩
  obtain ⟨sw1, zw1, cw1, fw1⟩ := bcell bw1
  try simp only [World.size_alloc, World.size_setCell, World.size_drew] at sw1
  try have lw1_w_0 : w.heap.size < w1.heap.size := by omega
  try have lw1_w_1 : w.heap.size + 1 < w1.heap.size := by omega
  try have lw1_w_2 : w.heap.size + 1 + 1 < w1.heap.size := by omega
  try have lw1_w_3 : w.heap.size + 1 + 1 + 1 < w1.heap.size := by omega
  try have lw1_w_4 : w.heap.size + 1 + 1 + 1 + 1 < w1.heap.size := by omega
  try have lw1_w_5 : w.heap.size + 1 + 1 + 1 + 1 + 1 < w1.heap.size := by omega
  try have lw1_w_6 : w.heap.size + 1 + 1 + 1 + 1 + 1 + 1 < w1.heap.size := by omega
  go_wp2_with fail
  go_call (turn_any) as e w2 ⟨rfl, bw2⟩
  obtain ⟨sw2, zw2, cw2, fw2⟩ := bcell bw2
  try simp only [World.size_alloc, World.size_setCell, World.size_drew] at sw2
  try have lw2_w_0 : w.heap.size < w2.heap.size := by omega
  try have lw2_w_1 : w.heap.size + 1 < w2.heap.size := by omega
  try have lw2_w_2 : w.heap.size + 1 + 1 < w2.heap.size := by omega
  try have lw2_w_3 : w.heap.size + 1 + 1 + 1 < w2.heap.size := by omega
  try have lw2_w_4 : w.heap.size + 1 + 1 + 1 + 1 < w2.heap.size := by omega
  try have lw2_w_5 : w.heap.size + 1 + 1 + 1 + 1 + 1 < w2.heap.size := by omega
  try have lw2_w_6 : w.heap.size + 1 + 1 + 1 + 1 + 1 + 1 < w2.heap.size := by omega
  try have lw2_w1_0 : w1.heap.size < w2.heap.size := by omega
  try have lw2_w1_1 : w1.heap.size + 1 < w2.heap.size := by omega
  try have lw2_w1_2 : w1.heap.size + 1 + 1 < w2.heap.size := by omega
  try have lw2_w1_3 : w1.heap.size + 1 + 1 + 1 < w2.heap.size := by omega
  try have lw2_w1_4 : w1.heap.size + 1 + 1 + 1 + 1 < w2.heap.size := by omega
  try have lw2_w1_5 : w1.heap.size + 1 + 1 + 1 + 1 + 1 < w2.heap.size := by omega
  try have lw2_w1_6 : w1.heap.size + 1 + 1 + 1 + 1 + 1 + 1 < w2.heap.size := by omega
  rw [hC.out.1, hC.out.2]
  go_wp2_with fail
  go_loopw [7] (fun s wr => ∃ k : Nat, k ≤ cmpO a b ∧ s = .int .i64 k ∧ Below w.heap.size w wr ∧ wr.cell? ⟨w.heap.size, 0, none⟩ = some (.int .i64 1) ∧ wr.cell? ⟨w.heap.size, 1, none⟩ = some (.int .i64 2) ∧ wr.cell? ⟨w2.heap.size, 0, none⟩ = some (.int .i64 (tX (cmpO a b) 1 2)) ∧ wr.cell? ⟨w2.heap.size, 1, none⟩ = some (.int .i64 (tY (cmpO a b) 1 2))) (fun s _ => 8 - (intOf s).toNat)
  case atStart => exact ⟨0, by omega, rfl, by (repeat (first | (with_reducible exact Below.refl _ _) | (with_reducible refine Ext.drewN ?_ _) | (with_reducible refine Below.drew ?_) | (with_reducible refine Ext.alloc ?_ _) | (with_reducible refine Ext.setCell ?_ (by simp; try omega) _) | (with_reducible refine Ext.trans ?_ (by assumption)) | (with_reducible assumption) | exact Below.refl _ _)), by simp [*, go_sem], by simp [*, go_sem], by simp, by simp⟩
  case round =>
    obtain ⟨k, hk, rfl, hB, e0, e1, e2, e3⟩ := hrel
    clear bw1 sw1 zw1 cw1 fw1 bw2 sw2 zw2 cw2 fw2
    have b1 : (0 : Int) ≤ (k : Int) := by omega
    have b2 : (k : Int) < 8 := by omega
    by_cases hko : k = cmpO a b
    · have heq : ∀ w : World, (Op.equalIn 10000 44 (.agg #[.int .i64 (tX k 1 2), .int .i64 (tY k 1 2)]) (.agg #[.int .i64 (tX (cmpO a b) 1 2), .int .i64 (tY (cmpO a b) 1 2)])).run Tryd.prog w = .ok true w := fun w => by rw [eqPt, turn_inj k _ (by omega) hlt, decide_eq_true hko]
      have HK := Lib.hid hko
      clear hko
      go_wp2_with fail
      go_region_held3 (fun w' => Below wr.heap.size wr w' ∧ w'.cell? ⟨w.heap.size, 0, none⟩ = some (.int .i64 1) ∧ w'.cell? ⟨w.heap.size, 1, none⟩ = some (.int .i64 2) ∧ w'.cell? ⟨w2.heap.size, 0, none⟩ = some (.int .i64 (tX (cmpO a b) 1 2)) ∧ w'.cell? ⟨w2.heap.size, 1, none⟩ = some (.int .i64 (tY (cmpO a b) 1 2)))
        (first | ((try dsimp only); go_split_ands; (repeat' (with_reducible refine And.intro ?_ ?_)) <;> first | ((repeat (with_reducible refine keepS ?_ (by simp; try omega) _)); (first | (with_reducible assumption) | (with_reducible exact keepC (by assumption) (by assumption)) | (with_reducible exact keepA (by assumption) _) | (with_reducible exact keepR (by assumption) (by omega) _))) | ((try simp only [World.size_alloc, World.size_setCell, World.size_drew]); omega) | (refine Mats.below hM ?_ hM.size; (repeat (first | (with_reducible exact Below.refl _ _) | (with_reducible refine Ext.drewN ?_ _) | (with_reducible refine Below.drew ?_) | (with_reducible refine Ext.alloc ?_ _) | (with_reducible refine Ext.setCell ?_ (by simp; try omega) _) | (with_reducible refine Ext.trans ?_ (by assumption)) | (with_reducible assumption) | exact Below.refl _ _)); done) | ((repeat (first | (with_reducible exact Below.refl _ _) | (with_reducible refine Ext.drewN ?_ _) | (with_reducible refine Below.drew ?_) | (with_reducible refine Ext.alloc ?_ _) | (with_reducible refine Ext.setCell ?_ (by simp; try omega) _) | (with_reducible refine Ext.trans ?_ (by assumption)) | (with_reducible assumption) | exact Below.refl _ _)); done) | (go_keep; done)))
        (first | (go_at_call 85; refine (turn_any _ _ _ _ b1 (by omega) (by omega) (by omega) (by omega) (by omega)).mono ?_; rintro e v1 ⟨rfl, bv1⟩; obtain ⟨sv1, zv1, cv1, fv1⟩ := bcell bv1; (try simp only [World.size_alloc, World.size_setCell, World.size_drew] at sv1)))
      go_wp2_with fail
      go_ret
      exact ⟨ret_int (by rw [HK.out]), by (repeat (first | (with_reducible exact Below.refl _ _) | (with_reducible refine Ext.drewN ?_ _) | (with_reducible refine Below.drew ?_) | (with_reducible refine Ext.alloc ?_ _) | (with_reducible refine Ext.setCell ?_ (by simp; try omega) _) | (with_reducible refine Ext.trans ?_ (by assumption)) | (with_reducible assumption) | exact Below.refl _ _))⟩
    · have heq : ∀ w : World, (Op.equalIn 10000 44 (.agg #[.int .i64 (tX k 1 2), .int .i64 (tY k 1 2)]) (.agg #[.int .i64 (tX (cmpO a b) 1 2), .int .i64 (tY (cmpO a b) 1 2)])).run Tryd.prog w = .ok false w := fun w => by rw [eqPt, turn_inj k _ (by omega) hlt, decide_eq_false hko]
      go_wp2_with fail
      go_region_held3 (fun w' => Below wr.heap.size wr w' ∧ w'.cell? ⟨w.heap.size, 0, none⟩ = some (.int .i64 1) ∧ w'.cell? ⟨w.heap.size, 1, none⟩ = some (.int .i64 2) ∧ w'.cell? ⟨w2.heap.size, 0, none⟩ = some (.int .i64 (tX (cmpO a b) 1 2)) ∧ w'.cell? ⟨w2.heap.size, 1, none⟩ = some (.int .i64 (tY (cmpO a b) 1 2)))
        (first | ((try dsimp only); go_split_ands; (repeat' (with_reducible refine And.intro ?_ ?_)) <;> first | ((repeat (with_reducible refine keepS ?_ (by simp; try omega) _)); (first | (with_reducible assumption) | (with_reducible exact keepC (by assumption) (by assumption)) | (with_reducible exact keepA (by assumption) _) | (with_reducible exact keepR (by assumption) (by omega) _))) | ((try simp only [World.size_alloc, World.size_setCell, World.size_drew]); omega) | (refine Mats.below hM ?_ hM.size; (repeat (first | (with_reducible exact Below.refl _ _) | (with_reducible refine Ext.drewN ?_ _) | (with_reducible refine Below.drew ?_) | (with_reducible refine Ext.alloc ?_ _) | (with_reducible refine Ext.setCell ?_ (by simp; try omega) _) | (with_reducible refine Ext.trans ?_ (by assumption)) | (with_reducible assumption) | exact Below.refl _ _)); done) | ((repeat (first | (with_reducible exact Below.refl _ _) | (with_reducible refine Ext.drewN ?_ _) | (with_reducible refine Below.drew ?_) | (with_reducible refine Ext.alloc ?_ _) | (with_reducible refine Ext.setCell ?_ (by simp; try omega) _) | (with_reducible refine Ext.trans ?_ (by assumption)) | (with_reducible assumption) | exact Below.refl _ _)); done) | (go_keep; done)))
        (first | (go_at_call 85; refine (turn_any _ _ _ _ b1 (by omega) (by omega) (by omega) (by omega) (by omega)).mono ?_; rintro e v1 ⟨rfl, bv1⟩; obtain ⟨sv1, zv1, cv1, fv1⟩ := bcell bv1; (try simp only [World.size_alloc, World.size_setCell, World.size_drew] at sv1)))
      go_wp2_with fail
      go_roundw
      case rel => exact ⟨k + 1, by omega, by go_num, by (repeat (first | (with_reducible exact Below.refl _ _) | (with_reducible refine Ext.drewN ?_ _) | (with_reducible refine Below.drew ?_) | (with_reducible refine Ext.alloc ?_ _) | (with_reducible refine Ext.setCell ?_ (by simp; try omega) _) | (with_reducible refine Ext.trans ?_ (by assumption)) | (with_reducible assumption) | exact Below.refl _ _)), by go_split_ands; assumption, by go_split_ands; assumption, by go_split_ands; assumption, by go_split_ands; assumption⟩
      case measure => simp [intOf]; omega
end Go.Proofs.YtciodcknobccdaaDoor
