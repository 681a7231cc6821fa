/- InvertTransform: the model's. No condition. -/
import Derived.Test.YtliaconoppnclaaDoorTrO
namespace Go.Proofs.YtliaconoppnclaaDoor
open Go.RowKit
set_option linter.unusedVariables false
set_option linter.unusedSimpArgs false
attribute [local go_sem ↓] Go.wp_at_zero Go.wp_at_succ

theorem past3 {w : World} {G b o : Nat} {v v0 v1 v2 : Value} (h : w.cell? ⟨b, o, none⟩ = some v) (hne : G ≠ b) (O : Obj) :
    ((((w.setCell ⟨G, 0, none⟩ v0).setCell ⟨G, 1, none⟩ v1).setCell ⟨G, 2, none⟩ v2).alloc O).cell? ⟨b, o, none⟩ = some v :=
  keepA (keepS (keepS (keepS h hne _) hne _) hne _) _
theorem frz3 {w : World} {G b o : Nat} {v0 v1 v2 : Value} (h : w.frozen? ⟨b, o, none⟩ = false) (hlt : b < w.heap.size) (O : Obj) :
    ((((w.setCell ⟨G, 0, none⟩ v0).setCell ⟨G, 1, none⟩ v1).setCell ⟨G, 2, none⟩ v2).alloc O).frozen? ⟨b, o, none⟩ = false := by
  rw [World.frozen?_alloc_old _ _ _ (by simp; omega)]
  simp [h]

set_option maxHeartbeats 8000000 in
theorem specIT_out (o x y : Int) (w : World) : Calls Tryd.prog 33 #[.agg #[.int .i64 o, .int .i64 x, .int .i64 y]] w fun e w' => e = .returned (.tuple #[.agg #[.int .i64 (it0 o x y), .int .i64 (it1 o x y), .int .i64 (it2 o x y)], .bool (vldB o x y)]) ∧ Below w.heap.size w w' := by
  cases h1 : vldB o x y with
  | false =>
    obtain ⟨m0, m1, m2⟩ := it_no h1
    rw [m0, m1, m2]
    clear m0 m1 m2
    go_enter Tryd.func33, Tryd.ntmps33
    go_wp2_with fail
    go_call (specValid_any) as e w1 ⟨rfl, bw1⟩
    obtain ⟨sw1, zw1, cw1, fw1⟩ := bcell bw1
    try simp only [World.size_alloc, World.size_setCell, World.size_drew] at sw1
    try have lw1_w_0 : w.heap.size < w1.heap.size := by omega
    try have lw1_w_1 : w.heap.size + 1 < w1.heap.size := by omega
    try have lw1_w_2 : w.heap.size + 1 + 1 < w1.heap.size := by omega
    try have lw1_w_3 : w.heap.size + 1 + 1 + 1 < w1.heap.size := by omega
    try have lw1_w_4 : w.heap.size + 1 + 1 + 1 + 1 < w1.heap.size := by omega
    try have lw1_w_5 : w.heap.size + 1 + 1 + 1 + 1 + 1 < w1.heap.size := by omega
    try have lw1_w_6 : w.heap.size + 1 + 1 + 1 + 1 + 1 + 1 < w1.heap.size := by omega
    rw [h1]
    go_wp2_with fail
    refine bodyPost_ret (v := .tuple #[.agg #[.int .i64 0, .int .i64 0, .int .i64 0], .bool false]) (by simp [*, results, Tryd.results33, go_sem]) rfl ⟨rfl, ?_⟩
    (repeat (first | (with_reducible exact Below.refl _ _) | (with_reducible refine Ext.drewN ?_ _) | (with_reducible refine Below.drew ?_) | (with_reducible refine Ext.alloc ?_ _) | (with_reducible refine Ext.setCell ?_ (by simp; try omega) _) | (with_reducible refine Ext.trans ?_ (by assumption)) | (with_reducible assumption) | exact Below.refl _ _))
  | true =>
    obtain ⟨m0, m1, m2⟩ := it_yes h1
    rw [m0, m1, m2]
    clear m0 m1 m2
    obtain ⟨⟨i1, i2⟩, ⟨i3, i4⟩, i5, i6⟩ := vldB_t h1
    obtain ⟨n, rfl⟩ : ∃ n : Nat, o = (n : Int) := ⟨o.toNat, by omega⟩
    simp only [Int.toNat_natCast]
    have hn8 : n < 8 := by omega
    have hi8 := invO_lt n hn8
    go_enter Tryd.func33, Tryd.ntmps33
    go_wp2_with fail
    go_call (specValid_any) as e w1 ⟨rfl, bw1⟩
    obtain ⟨sw1, zw1, cw1, fw1⟩ := bcell bw1
    try simp only [World.size_alloc, World.size_setCell, World.size_drew] at sw1
    try have lw1_w_0 : w.heap.size < w1.heap.size := by omega
    try have lw1_w_1 : w.heap.size + 1 < w1.heap.size := by omega
    try have lw1_w_2 : w.heap.size + 1 + 1 < w1.heap.size := by omega
    try have lw1_w_3 : w.heap.size + 1 + 1 + 1 < w1.heap.size := by omega
    try have lw1_w_4 : w.heap.size + 1 + 1 + 1 + 1 < w1.heap.size := by omega
    try have lw1_w_5 : w.heap.size + 1 + 1 + 1 + 1 + 1 < w1.heap.size := by omega
    try have lw1_w_6 : w.heap.size + 1 + 1 + 1 + 1 + 1 + 1 < w1.heap.size := by omega
    rw [h1]
    go_wp2_with fail
    go_loopw [5] (fun s wr => ∃ k : Nat, k ≤ 8 ∧ s = .int .i64 k ∧ w1.heap.size < wr.heap.size ∧ Below w.heap.size w wr ∧ wr.cell? ⟨w.heap.size, 0, none⟩ = some (.int .i64 n) ∧ wr.cell? ⟨w.heap.size, 1, none⟩ = some (.int .i64 x) ∧ wr.cell? ⟨w.heap.size, 2, none⟩ = some (.int .i64 y)
        ∧ wr.cell? ⟨w.heap.size + 1, 0, none⟩ = some (.int .i64 0) ∧ wr.cell? ⟨w.heap.size + 1, 1, none⟩ = some (.int .i64 0) ∧ wr.cell? ⟨w.heap.size + 1, 2, none⟩ = some (.int .i64 0)
        ∧ wr.cell? ⟨w1.heap.size, 0, none⟩ = some (.int .i64 (io (invO n) k (invO n : Nat))) ∧ wr.cell? ⟨w1.heap.size, 1, none⟩ = some (.int .i64 (io (invO n) k (tX (invO n : Nat) (-x) (-y)))) ∧ wr.cell? ⟨w1.heap.size, 2, none⟩ = some (.int .i64 (io (invO n) k (tY (invO n : Nat) (-x) (-y))))
        ∧ wr.frozen? ⟨w.heap.size + 1, 0, none⟩ = false ∧ wr.frozen? ⟨w.heap.size + 1, 1, none⟩ = false ∧ wr.frozen? ⟨w.heap.size + 1, 2, none⟩ = false ∧ wr.frozen? ⟨w1.heap.size, 0, none⟩ = false ∧ wr.frozen? ⟨w1.heap.size, 1, none⟩ = false ∧ wr.frozen? ⟨w1.heap.size, 2, none⟩ = false) (fun s _ => 9 - (intOf s).toNat)
    case atStart => exact ⟨0, by omega, rfl, by simp, by (repeat (first | (with_reducible exact Below.refl _ _) | (with_reducible refine Ext.drewN ?_ _) | (with_reducible refine Below.drew ?_) | (with_reducible refine Ext.alloc ?_ _) | (with_reducible refine Ext.setCell ?_ (by simp; try omega) _) | (with_reducible refine Ext.trans ?_ (by assumption)) | (with_reducible assumption) | exact Below.refl _ _)), by simp [*, go_sem], by simp [*, go_sem], by simp [*, go_sem], by simp [*, go_sem], by simp [*, go_sem], by simp [*, go_sem], by simp [io], by simp [io], by simp [io], by simp [*, go_sem], by simp [*, go_sem], by simp [*, go_sem], by simp, by simp, by simp⟩
    case round =>
      clear bw1 zw1 cw1 fw1
      obtain ⟨k, hk, rfl, hW1, hB, e0, e1, e2, z0, z1, z2, c0, c1, c2, f0, f1, f2, f3, f4, f5⟩ := hrel
      have b1 : (0 : Int) ≤ (k : Int) := by omega
      have g0 : w.heap.size < wr.heap.size := by omega
      have g1 : w.heap.size + 1 < wr.heap.size := by omega
      by_cases hk8 : k < 8
      · have b2 : (k : Int) < 8 := by omega
        by_cases hko : k = invO n
        · have hz : (((cmpO n k : Nat) : Int) == 0) = true := by rw [cmp_inv n k hn8 hk8]; exact decide_eq_true hko
          subst hko
          go_wp2_with fail
          go_call (l01Same_any) as e w2 ⟨rfl, bw2⟩
          obtain ⟨sw2, zw2, cw2, fw2⟩ := bcell bw2
          try simp only [World.size_alloc, World.size_setCell, World.size_drew] at sw2
          try have lw2_w_0 : w.heap.size < w2.heap.size := by omega
          try have lw2_w_1 : w.heap.size + 1 < w2.heap.size := by omega
          try have lw2_w_2 : w.heap.size + 1 + 1 < w2.heap.size := by omega
          try have lw2_w_3 : w.heap.size + 1 + 1 + 1 < w2.heap.size := by omega
          try have lw2_w_4 : w.heap.size + 1 + 1 + 1 + 1 < w2.heap.size := by omega
          try have lw2_w_5 : w.heap.size + 1 + 1 + 1 + 1 + 1 < w2.heap.size := by omega
          try have lw2_w_6 : w.heap.size + 1 + 1 + 1 + 1 + 1 + 1 < w2.heap.size := by omega
          try have lw2_w1_0 : w1.heap.size < w2.heap.size := by omega
          try have lw2_w1_1 : w1.heap.size + 1 < w2.heap.size := by omega
          try have lw2_w1_2 : w1.heap.size + 1 + 1 < w2.heap.size := by omega
          try have lw2_w1_3 : w1.heap.size + 1 + 1 + 1 < w2.heap.size := by omega
          try have lw2_w1_4 : w1.heap.size + 1 + 1 + 1 + 1 < w2.heap.size := by omega
          try have lw2_w1_5 : w1.heap.size + 1 + 1 + 1 + 1 + 1 < w2.heap.size := by omega
          try have lw2_w1_6 : w1.heap.size + 1 + 1 + 1 + 1 + 1 + 1 < w2.heap.size := by omega
          try have lw2_wr_0 : wr.heap.size < w2.heap.size := by omega
          try have lw2_wr_1 : wr.heap.size + 1 < w2.heap.size := by omega
          try have lw2_wr_2 : wr.heap.size + 1 + 1 < w2.heap.size := by omega
          try have lw2_wr_3 : wr.heap.size + 1 + 1 + 1 < w2.heap.size := by omega
          try have lw2_wr_4 : wr.heap.size + 1 + 1 + 1 + 1 < w2.heap.size := by omega
          try have lw2_wr_5 : wr.heap.size + 1 + 1 + 1 + 1 + 1 < w2.heap.size := by omega
          try have lw2_wr_6 : wr.heap.size + 1 + 1 + 1 + 1 + 1 + 1 < w2.heap.size := by omega
          have d0 := keepC bw2 c0
          have d1 := keepC bw2 c1
          have d2 := keepC bw2 c2
          go_wp2_with fail
          go_call (turn_any) as e w3 ⟨rfl, bw3⟩
          obtain ⟨sw3, zw3, cw3, fw3⟩ := bcell bw3
          try simp only [World.size_alloc, World.size_setCell, World.size_drew] at sw3
          try have lw3_w_0 : w.heap.size < w3.heap.size := by omega
          try have lw3_w_1 : w.heap.size + 1 < w3.heap.size := by omega
          try have lw3_w_2 : w.heap.size + 1 + 1 < w3.heap.size := by omega
          try have lw3_w_3 : w.heap.size + 1 + 1 + 1 < w3.heap.size := by omega
          try have lw3_w_4 : w.heap.size + 1 + 1 + 1 + 1 < w3.heap.size := by omega
          try have lw3_w_5 : w.heap.size + 1 + 1 + 1 + 1 + 1 < w3.heap.size := by omega
          try have lw3_w_6 : w.heap.size + 1 + 1 + 1 + 1 + 1 + 1 < w3.heap.size := by omega
          try have lw3_w1_0 : w1.heap.size < w3.heap.size := by omega
          try have lw3_w1_1 : w1.heap.size + 1 < w3.heap.size := by omega
          try have lw3_w1_2 : w1.heap.size + 1 + 1 < w3.heap.size := by omega
          try have lw3_w1_3 : w1.heap.size + 1 + 1 + 1 < w3.heap.size := by omega
          try have lw3_w1_4 : w1.heap.size + 1 + 1 + 1 + 1 < w3.heap.size := by omega
          try have lw3_w1_5 : w1.heap.size + 1 + 1 + 1 + 1 + 1 < w3.heap.size := by omega
          try have lw3_w1_6 : w1.heap.size + 1 + 1 + 1 + 1 + 1 + 1 < w3.heap.size := by omega
          try have lw3_wr_0 : wr.heap.size < w3.heap.size := by omega
          try have lw3_wr_1 : wr.heap.size + 1 < w3.heap.size := by omega
          try have lw3_wr_2 : wr.heap.size + 1 + 1 < w3.heap.size := by omega
          try have lw3_wr_3 : wr.heap.size + 1 + 1 + 1 < w3.heap.size := by omega
          try have lw3_wr_4 : wr.heap.size + 1 + 1 + 1 + 1 < w3.heap.size := by omega
          try have lw3_wr_5 : wr.heap.size + 1 + 1 + 1 + 1 + 1 < w3.heap.size := by omega
          try have lw3_wr_6 : wr.heap.size + 1 + 1 + 1 + 1 + 1 + 1 < w3.heap.size := by omega
          try have lw3_w2_0 : w2.heap.size < w3.heap.size := by omega
          try have lw3_w2_1 : w2.heap.size + 1 < w3.heap.size := by omega
          try have lw3_w2_2 : w2.heap.size + 1 + 1 < w3.heap.size := by omega
          try have lw3_w2_3 : w2.heap.size + 1 + 1 + 1 < w3.heap.size := by omega
          try have lw3_w2_4 : w2.heap.size + 1 + 1 + 1 + 1 < w3.heap.size := by omega
          try have lw3_w2_5 : w2.heap.size + 1 + 1 + 1 + 1 + 1 < w3.heap.size := by omega
          try have lw3_w2_6 : w2.heap.size + 1 + 1 + 1 + 1 + 1 + 1 < w3.heap.size := by omega
          have d3 := keepC bw3 d0
          have d4 := keepC bw3 d1
          have d5 := keepC bw3 d2
          go_wp2_with fail
          go_roundw
          case rel =>
            refine ⟨invO n + 1, by omega, by go_num, by (try simp only [World.size_alloc, World.size_setCell, World.size_drew]); omega, by (repeat (first | (with_reducible exact Below.refl _ _) | (with_reducible refine Ext.drewN ?_ _) | (with_reducible refine Below.drew ?_) | (with_reducible refine Ext.alloc ?_ _) | (with_reducible refine Ext.setCell ?_ (by simp; try omega) _) | (with_reducible refine Ext.trans ?_ (by assumption)) | (with_reducible assumption) | exact Below.refl _ _)), ?_, ?_, ?_, ?_, ?_, ?_, ?_, ?_, ?_, ?_, ?_, ?_, ?_, ?_, ?_⟩
            · exact past3 (keepC bw3 (keepC bw2 e0)) (by omega) _
            · exact past3 (keepC bw3 (keepC bw2 e1)) (by omega) _
            · exact past3 (keepC bw3 (keepC bw2 e2)) (by omega) _
            · exact past3 (keepC bw3 (keepC bw2 z0)) (by omega) _
            · exact past3 (keepC bw3 (keepC bw2 z1)) (by omega) _
            · exact past3 (keepC bw3 (keepC bw2 z2)) (by omega) _
            · rw [io_lt (by omega)]; exact keepA (set3_0 d3 d4 d5) _
            · rw [io_lt (by omega)]; exact keepA (set3_1 d3 d4 d5) _
            · rw [io_lt (by omega)]; exact keepA (set3_2 d3 d4 d5) _
            · exact frz3 ((fw3 _ _ (by omega)).trans ((fw2 _ _ (by omega)).trans f0)) (by omega) _
            · exact frz3 ((fw3 _ _ (by omega)).trans ((fw2 _ _ (by omega)).trans f1)) (by omega) _
            · exact frz3 ((fw3 _ _ (by omega)).trans ((fw2 _ _ (by omega)).trans f2)) (by omega) _
            · exact frz3 ((fw3 _ _ (by omega)).trans ((fw2 _ _ (by omega)).trans f3)) (by omega) _
            · exact frz3 ((fw3 _ _ (by omega)).trans ((fw2 _ _ (by omega)).trans f4)) (by omega) _
            · exact frz3 ((fw3 _ _ (by omega)).trans ((fw2 _ _ (by omega)).trans f5)) (by omega) _
          case measure => simp [intOf]; omega
        · have hz : (((cmpO n k : Nat) : Int) == 0) = false := by rw [cmp_inv n k hn8 hk8]; exact decide_eq_false hko
          go_wp2_with fail
          go_call (l01Same_any) as e w2 ⟨rfl, bw2⟩
          obtain ⟨sw2, zw2, cw2, fw2⟩ := bcell bw2
          try simp only [World.size_alloc, World.size_setCell, World.size_drew] at sw2
          try have lw2_w_0 : w.heap.size < w2.heap.size := by omega
          try have lw2_w_1 : w.heap.size + 1 < w2.heap.size := by omega
          try have lw2_w_2 : w.heap.size + 1 + 1 < w2.heap.size := by omega
          try have lw2_w_3 : w.heap.size + 1 + 1 + 1 < w2.heap.size := by omega
          try have lw2_w_4 : w.heap.size + 1 + 1 + 1 + 1 < w2.heap.size := by omega
          try have lw2_w_5 : w.heap.size + 1 + 1 + 1 + 1 + 1 < w2.heap.size := by omega
          try have lw2_w_6 : w.heap.size + 1 + 1 + 1 + 1 + 1 + 1 < w2.heap.size := by omega
          try have lw2_w1_0 : w1.heap.size < w2.heap.size := by omega
          try have lw2_w1_1 : w1.heap.size + 1 < w2.heap.size := by omega
          try have lw2_w1_2 : w1.heap.size + 1 + 1 < w2.heap.size := by omega
          try have lw2_w1_3 : w1.heap.size + 1 + 1 + 1 < w2.heap.size := by omega
          try have lw2_w1_4 : w1.heap.size + 1 + 1 + 1 + 1 < w2.heap.size := by omega
          try have lw2_w1_5 : w1.heap.size + 1 + 1 + 1 + 1 + 1 < w2.heap.size := by omega
          try have lw2_w1_6 : w1.heap.size + 1 + 1 + 1 + 1 + 1 + 1 < w2.heap.size := by omega
          try have lw2_wr_0 : wr.heap.size < w2.heap.size := by omega
          try have lw2_wr_1 : wr.heap.size + 1 < w2.heap.size := by omega
          try have lw2_wr_2 : wr.heap.size + 1 + 1 < w2.heap.size := by omega
          try have lw2_wr_3 : wr.heap.size + 1 + 1 + 1 < w2.heap.size := by omega
          try have lw2_wr_4 : wr.heap.size + 1 + 1 + 1 + 1 < w2.heap.size := by omega
          try have lw2_wr_5 : wr.heap.size + 1 + 1 + 1 + 1 + 1 < w2.heap.size := by omega
          try have lw2_wr_6 : wr.heap.size + 1 + 1 + 1 + 1 + 1 + 1 < w2.heap.size := by omega
          go_wp2_with fail
          go_roundw
          case rel =>
            exact ⟨k + 1, by omega, by go_num, by omega, by (repeat (first | (with_reducible exact Below.refl _ _) | (with_reducible refine Ext.drewN ?_ _) | (with_reducible refine Below.drew ?_) | (with_reducible refine Ext.alloc ?_ _) | (with_reducible refine Ext.setCell ?_ (by simp; try omega) _) | (with_reducible refine Ext.trans ?_ (by assumption)) | (with_reducible assumption) | exact Below.refl _ _)), keepC bw2 e0, keepC bw2 e1, keepC bw2 e2, keepC bw2 z0, keepC bw2 z1, keepC bw2 z2, by rw [io_step hko]; exact keepC bw2 c0, by rw [io_step hko]; exact keepC bw2 c1, by rw [io_step hko]; exact keepC bw2 c2, by simp [*, go_sem], by simp [*, go_sem], by simp [*, go_sem], by simp [*, go_sem], by simp [*, go_sem], by simp [*, go_sem]⟩
          case measure => simp [intOf]; omega
      · obtain rfl : k = 8 := by omega
        rw [io_lt hi8] at c0 c1 c2
        go_wp2_with fail
        refine bodyPost_ret (v := .tuple #[.agg #[.int .i64 (invO n : Nat), .int .i64 (tX (invO n : Nat) (-x) (-y)), .int .i64 (tY (invO n : Nat) (-x) (-y))], .bool true]) (by simp [*, results, Tryd.results33, go_sem]) rfl ⟨rfl, ?_⟩
        (repeat (first | (with_reducible exact Below.refl _ _) | (with_reducible refine Ext.drewN ?_ _) | (with_reducible refine Below.drew ?_) | (with_reducible refine Ext.alloc ?_ _) | (with_reducible refine Ext.setCell ?_ (by simp; try omega) _) | (with_reducible refine Ext.trans ?_ (by assumption)) | (with_reducible assumption) | exact Below.refl _ _))
end Go.Proofs.YtliaconoppnclaaDoor
