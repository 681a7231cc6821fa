/- The model's MoveEdge; FnExactMoveEdge answers true. Condition: the variable orientationMatrices holds its table. -/
import Derived.Test.YtmabdemdapnmkaaDoorEgM
namespace Go.Proofs.YtmabdemdapnmkaaDoor
open Go.RowKit
set_option linter.unusedVariables false
set_option linter.unusedSimpArgs false
attribute [local go_sem ↓] Go.wp_at_zero Go.wp_at_succ

theorem eqEdge_any (a b c d p q r s : Int) (w : World) : Calls Tryd.prog 17 #[.agg #[.int .i64 a, .int .i64 b, .int .i64 c, .int .i64 d], .agg #[.int .i64 p, .int .i64 q, .int .i64 r, .int .i64 s]] w fun e w' => e = .returned (.bool (eqRB a b c d p q r s)) ∧ Below w.heap.size w w' := by
  have key : (a = p ∧ b = q ∧ c = r ∧ d = s) ∨ (¬ a = p) ∨ (a = p ∧ ¬ b = q) ∨ (a = p ∧ b = q ∧ ¬ c = r) ∨ (a = p ∧ b = q ∧ c = r ∧ ¬ d = s) := by omega
  rcases key with ⟨h1, h2, h3, h4⟩ | h1 | ⟨h1, h2⟩ | ⟨h1, h2, h3⟩ | ⟨h1, h2, h3, h4⟩
  all_goals
    go_enter Tryd.func17, Tryd.ntmps17
    go_wp2_with fail
    go_ret
    exact ⟨ret_bool (by simp [eqRB, h1]; try omega), by (repeat (first | (with_reducible exact Below.refl _ _) | (with_reducible refine Ext.drewN ?_ _) | (with_reducible refine Below.drew ?_) | (with_reducible refine Ext.alloc ?_ _) | (with_reducible refine Ext.setCell ?_ (by simp; try omega) _) | (with_reducible refine Ext.trans ?_ (by assumption)) | (with_reducible assumption) | exact Below.refl _ _))⟩

theorem l01Move_is (o x y a b : Int) (w : World) (h0 : 0 ≤ o) (h7 : o ≤ 7) (hx : -1000 ≤ x) (hx' : x ≤ 1000) (hy : -1000 ≤ y) (hy' : y ≤ 1000) (ha : -1000 ≤ a) (ha' : a ≤ 1000) (hb : -1000 ≤ b) (hb' : b ≤ 1000) :
    Calls Tryd.prog 33 #[.agg #[.int .i64 o, .int .i64 x, .int .i64 y], .agg #[.int .i64 a, .int .i64 b]] w fun e w' => e = .returned (.agg #[.int .i64 (mvX o x y a b), .int .i64 (mvY o x y a b)]) ∧ Below w.heap.size w w' := l01Move_any o x y a b w h0 h7 hx hx' hy hy' ha ha' hb hb'

set_option maxHeartbeats 8000000 in
theorem specMoveEdge_out (o x y a b c d : Int) (w : World) : Calls Tryd.prog 13 #[.agg #[.int .i64 o, .int .i64 x, .int .i64 y], .agg #[.int .i64 a, .int .i64 b, .int .i64 c, .int .i64 d]] w fun e w' => e = .returned (meV o x y a b c d) ∧ Below w.heap.size w w' := by
  cases h1 : vldB o x y with
  | false =>
    rw [meV_no (by simp [meB, h1])]
    go_enter Tryd.func13, Tryd.ntmps13
    go_wp2_with fail
    go_call (specValid_any) as e w1 ⟨rfl, bw1⟩
    obtain ⟨sw1, zw1, cw1, fw1⟩ := bcell bw1
    try simp only [World.size_alloc, World.size_setCell, World.size_drew] at sw1
    try have lw1_w_0 : w.heap.size < w1.heap.size := by omega
    try have lw1_w_1 : w.heap.size + 1 < w1.heap.size := by omega
    try have lw1_w_2 : w.heap.size + 1 + 1 < w1.heap.size := by omega
    try have lw1_w_3 : w.heap.size + 1 + 1 + 1 < w1.heap.size := by omega
    try have lw1_w_4 : w.heap.size + 1 + 1 + 1 + 1 < w1.heap.size := by omega
    try have lw1_w_5 : w.heap.size + 1 + 1 + 1 + 1 + 1 < w1.heap.size := by omega
    try have lw1_w_6 : w.heap.size + 1 + 1 + 1 + 1 + 1 + 1 < w1.heap.size := by omega
    rw [h1]
    go_wp2_with fail
    refine bodyPost_ret (v := .tuple #[.agg #[.int .i64 0, .int .i64 0, .int .i64 0, .int .i64 0], .bool false]) (by simp [*, results, Tryd.results13, go_sem]) rfl ⟨rfl, ?_⟩
    (repeat (first | (with_reducible exact Below.refl _ _) | (with_reducible refine Ext.drewN ?_ _) | (with_reducible refine Below.drew ?_) | (with_reducible refine Ext.alloc ?_ _) | (with_reducible refine Ext.setCell ?_ (by simp; try omega) _) | (with_reducible refine Ext.trans ?_ (by assumption)) | (with_reducible assumption) | exact Below.refl _ _))
  | true =>
    obtain ⟨⟨i1, i2⟩, ⟨i3, i4⟩, i5, i6⟩ := vldB_t h1
    cases h2 : elB a b c d with
    | false =>
      have he := elV_f h2
      rw [meV_no (by simp [meB, h2])]
      go_enter Tryd.func13, Tryd.ntmps13
      go_wp2_with fail
      go_call (specValid_any) as e w1 ⟨rfl, bw1⟩
      obtain ⟨sw1, zw1, cw1, fw1⟩ := bcell bw1
      try simp only [World.size_alloc, World.size_setCell, World.size_drew] at sw1
      try have lw1_w_0 : w.heap.size < w1.heap.size := by omega
      try have lw1_w_1 : w.heap.size + 1 < w1.heap.size := by omega
      try have lw1_w_2 : w.heap.size + 1 + 1 < w1.heap.size := by omega
      try have lw1_w_3 : w.heap.size + 1 + 1 + 1 < w1.heap.size := by omega
      try have lw1_w_4 : w.heap.size + 1 + 1 + 1 + 1 < w1.heap.size := by omega
      try have lw1_w_5 : w.heap.size + 1 + 1 + 1 + 1 + 1 < w1.heap.size := by omega
      try have lw1_w_6 : w.heap.size + 1 + 1 + 1 + 1 + 1 + 1 < w1.heap.size := by omega
      rw [h1]
      go_wp2_with fail
      go_call (specEdgeLength_any _ _ _ _ _) as e w2 ⟨rfl, bw2⟩
      obtain ⟨sw2, zw2, cw2, fw2⟩ := bcell bw2
      try simp only [World.size_alloc, World.size_setCell, World.size_drew] at sw2
      try have lw2_w_0 : w.heap.size < w2.heap.size := by omega
      try have lw2_w_1 : w.heap.size + 1 < w2.heap.size := by omega
      try have lw2_w_2 : w.heap.size + 1 + 1 < w2.heap.size := by omega
      try have lw2_w_3 : w.heap.size + 1 + 1 + 1 < w2.heap.size := by omega
      try have lw2_w_4 : w.heap.size + 1 + 1 + 1 + 1 < w2.heap.size := by omega
      try have lw2_w_5 : w.heap.size + 1 + 1 + 1 + 1 + 1 < w2.heap.size := by omega
      try have lw2_w_6 : w.heap.size + 1 + 1 + 1 + 1 + 1 + 1 < w2.heap.size := by omega
      try have lw2_w1_0 : w1.heap.size < w2.heap.size := by omega
      try have lw2_w1_1 : w1.heap.size + 1 < w2.heap.size := by omega
      try have lw2_w1_2 : w1.heap.size + 1 + 1 < w2.heap.size := by omega
      try have lw2_w1_3 : w1.heap.size + 1 + 1 + 1 < w2.heap.size := by omega
      try have lw2_w1_4 : w1.heap.size + 1 + 1 + 1 + 1 < w2.heap.size := by omega
      try have lw2_w1_5 : w1.heap.size + 1 + 1 + 1 + 1 + 1 < w2.heap.size := by omega
      try have lw2_w1_6 : w1.heap.size + 1 + 1 + 1 + 1 + 1 + 1 < w2.heap.size := by omega
      rw [he]
      go_wp2_with fail
      refine bodyPost_ret (v := .tuple #[.agg #[.int .i64 0, .int .i64 0, .int .i64 0, .int .i64 0], .bool false]) (by simp [*, results, Tryd.results13, go_sem]) rfl ⟨rfl, ?_⟩
      (repeat (first | (with_reducible exact Below.refl _ _) | (with_reducible refine Ext.drewN ?_ _) | (with_reducible refine Below.drew ?_) | (with_reducible refine Ext.alloc ?_ _) | (with_reducible refine Ext.setCell ?_ (by simp; try omega) _) | (with_reducible refine Ext.trans ?_ (by assumption)) | (with_reducible assumption) | exact Below.refl _ _))
    | true =>
      obtain ⟨ha, hc⟩ := elB_t h2
      obtain ⟨⟨x1, x2⟩, x3, x4⟩ := onB_t ha
      obtain ⟨⟨y1, y2⟩, y3, y4⟩ := onB_t hc
      have he := elV_t h2
      have hne : ¬ elV a b c d < 0 := by rw [he]; omega
      clear he
      cases h3 : onB (mvX o x y a b) (mvY o x y a b) with
      | false =>
        rw [meV_no (by simp [meB, h3])]
        go_enter Tryd.func13, Tryd.ntmps13
        go_wp2_with fail
        go_call (specValid_any) as e w1 ⟨rfl, bw1⟩
        obtain ⟨sw1, zw1, cw1, fw1⟩ := bcell bw1
        try simp only [World.size_alloc, World.size_setCell, World.size_drew] at sw1
        try have lw1_w_0 : w.heap.size < w1.heap.size := by omega
        try have lw1_w_1 : w.heap.size + 1 < w1.heap.size := by omega
        try have lw1_w_2 : w.heap.size + 1 + 1 < w1.heap.size := by omega
        try have lw1_w_3 : w.heap.size + 1 + 1 + 1 < w1.heap.size := by omega
        try have lw1_w_4 : w.heap.size + 1 + 1 + 1 + 1 < w1.heap.size := by omega
        try have lw1_w_5 : w.heap.size + 1 + 1 + 1 + 1 + 1 < w1.heap.size := by omega
        try have lw1_w_6 : w.heap.size + 1 + 1 + 1 + 1 + 1 + 1 < w1.heap.size := by omega
        rw [h1]
        go_wp2_with fail
        go_call (specEdgeLength_any _ _ _ _ _) as e w2 ⟨rfl, bw2⟩
        obtain ⟨sw2, zw2, cw2, fw2⟩ := bcell bw2
        try simp only [World.size_alloc, World.size_setCell, World.size_drew] at sw2
        try have lw2_w_0 : w.heap.size < w2.heap.size := by omega
        try have lw2_w_1 : w.heap.size + 1 < w2.heap.size := by omega
        try have lw2_w_2 : w.heap.size + 1 + 1 < w2.heap.size := by omega
        try have lw2_w_3 : w.heap.size + 1 + 1 + 1 < w2.heap.size := by omega
        try have lw2_w_4 : w.heap.size + 1 + 1 + 1 + 1 < w2.heap.size := by omega
        try have lw2_w_5 : w.heap.size + 1 + 1 + 1 + 1 + 1 < w2.heap.size := by omega
        try have lw2_w_6 : w.heap.size + 1 + 1 + 1 + 1 + 1 + 1 < w2.heap.size := by omega
        try have lw2_w1_0 : w1.heap.size < w2.heap.size := by omega
        try have lw2_w1_1 : w1.heap.size + 1 < w2.heap.size := by omega
        try have lw2_w1_2 : w1.heap.size + 1 + 1 < w2.heap.size := by omega
        try have lw2_w1_3 : w1.heap.size + 1 + 1 + 1 < w2.heap.size := by omega
        try have lw2_w1_4 : w1.heap.size + 1 + 1 + 1 + 1 < w2.heap.size := by omega
        try have lw2_w1_5 : w1.heap.size + 1 + 1 + 1 + 1 + 1 < w2.heap.size := by omega
        try have lw2_w1_6 : w1.heap.size + 1 + 1 + 1 + 1 + 1 + 1 < w2.heap.size := by omega
        go_wp2_with fail
        go_call (l01Move_is o x y a b _ (by omega) (by omega) (by omega) (by omega) (by omega) (by omega) (by omega) (by omega) (by omega) (by omega)) as e w3 ⟨rfl, bw3⟩
        obtain ⟨sw3, zw3, cw3, fw3⟩ := bcell bw3
        try simp only [World.size_alloc, World.size_setCell, World.size_drew] at sw3
        try have lw3_w_0 : w.heap.size < w3.heap.size := by omega
        try have lw3_w_1 : w.heap.size + 1 < w3.heap.size := by omega
        try have lw3_w_2 : w.heap.size + 1 + 1 < w3.heap.size := by omega
        try have lw3_w_3 : w.heap.size + 1 + 1 + 1 < w3.heap.size := by omega
        try have lw3_w_4 : w.heap.size + 1 + 1 + 1 + 1 < w3.heap.size := by omega
        try have lw3_w_5 : w.heap.size + 1 + 1 + 1 + 1 + 1 < w3.heap.size := by omega
        try have lw3_w_6 : w.heap.size + 1 + 1 + 1 + 1 + 1 + 1 < w3.heap.size := by omega
        try have lw3_w1_0 : w1.heap.size < w3.heap.size := by omega
        try have lw3_w1_1 : w1.heap.size + 1 < w3.heap.size := by omega
        try have lw3_w1_2 : w1.heap.size + 1 + 1 < w3.heap.size := by omega
        try have lw3_w1_3 : w1.heap.size + 1 + 1 + 1 < w3.heap.size := by omega
        try have lw3_w1_4 : w1.heap.size + 1 + 1 + 1 + 1 < w3.heap.size := by omega
        try have lw3_w1_5 : w1.heap.size + 1 + 1 + 1 + 1 + 1 < w3.heap.size := by omega
        try have lw3_w1_6 : w1.heap.size + 1 + 1 + 1 + 1 + 1 + 1 < w3.heap.size := by omega
        try have lw3_w2_0 : w2.heap.size < w3.heap.size := by omega
        try have lw3_w2_1 : w2.heap.size + 1 < w3.heap.size := by omega
        try have lw3_w2_2 : w2.heap.size + 1 + 1 < w3.heap.size := by omega
        try have lw3_w2_3 : w2.heap.size + 1 + 1 + 1 < w3.heap.size := by omega
        try have lw3_w2_4 : w2.heap.size + 1 + 1 + 1 + 1 < w3.heap.size := by omega
        try have lw3_w2_5 : w2.heap.size + 1 + 1 + 1 + 1 + 1 < w3.heap.size := by omega
        try have lw3_w2_6 : w2.heap.size + 1 + 1 + 1 + 1 + 1 + 1 < w3.heap.size := by omega
        go_wp2_with fail
        go_call (l01Move_is o x y c d _ (by omega) (by omega) (by omega) (by omega) (by omega) (by omega) (by omega) (by omega) (by omega) (by omega)) as e w4 ⟨rfl, bw4⟩
        obtain ⟨sw4, zw4, cw4, fw4⟩ := bcell bw4
        try simp only [World.size_alloc, World.size_setCell, World.size_drew] at sw4
        try have lw4_w_0 : w.heap.size < w4.heap.size := by omega
        try have lw4_w_1 : w.heap.size + 1 < w4.heap.size := by omega
        try have lw4_w_2 : w.heap.size + 1 + 1 < w4.heap.size := by omega
        try have lw4_w_3 : w.heap.size + 1 + 1 + 1 < w4.heap.size := by omega
        try have lw4_w_4 : w.heap.size + 1 + 1 + 1 + 1 < w4.heap.size := by omega
        try have lw4_w_5 : w.heap.size + 1 + 1 + 1 + 1 + 1 < w4.heap.size := by omega
        try have lw4_w_6 : w.heap.size + 1 + 1 + 1 + 1 + 1 + 1 < w4.heap.size := by omega
        try have lw4_w1_0 : w1.heap.size < w4.heap.size := by omega
        try have lw4_w1_1 : w1.heap.size + 1 < w4.heap.size := by omega
        try have lw4_w1_2 : w1.heap.size + 1 + 1 < w4.heap.size := by omega
        try have lw4_w1_3 : w1.heap.size + 1 + 1 + 1 < w4.heap.size := by omega
        try have lw4_w1_4 : w1.heap.size + 1 + 1 + 1 + 1 < w4.heap.size := by omega
        try have lw4_w1_5 : w1.heap.size + 1 + 1 + 1 + 1 + 1 < w4.heap.size := by omega
        try have lw4_w1_6 : w1.heap.size + 1 + 1 + 1 + 1 + 1 + 1 < w4.heap.size := by omega
        try have lw4_w2_0 : w2.heap.size < w4.heap.size := by omega
        try have lw4_w2_1 : w2.heap.size + 1 < w4.heap.size := by omega
        try have lw4_w2_2 : w2.heap.size + 1 + 1 < w4.heap.size := by omega
        try have lw4_w2_3 : w2.heap.size + 1 + 1 + 1 < w4.heap.size := by omega
        try have lw4_w2_4 : w2.heap.size + 1 + 1 + 1 + 1 < w4.heap.size := by omega
        try have lw4_w2_5 : w2.heap.size + 1 + 1 + 1 + 1 + 1 < w4.heap.size := by omega
        try have lw4_w2_6 : w2.heap.size + 1 + 1 + 1 + 1 + 1 + 1 < w4.heap.size := by omega
        try have lw4_w3_0 : w3.heap.size < w4.heap.size := by omega
        try have lw4_w3_1 : w3.heap.size + 1 < w4.heap.size := by omega
        try have lw4_w3_2 : w3.heap.size + 1 + 1 < w4.heap.size := by omega
        try have lw4_w3_3 : w3.heap.size + 1 + 1 + 1 < w4.heap.size := by omega
        try have lw4_w3_4 : w3.heap.size + 1 + 1 + 1 + 1 < w4.heap.size := by omega
        try have lw4_w3_5 : w3.heap.size + 1 + 1 + 1 + 1 + 1 < w4.heap.size := by omega
        try have lw4_w3_6 : w3.heap.size + 1 + 1 + 1 + 1 + 1 + 1 < w4.heap.size := by omega
        go_wp2_with fail
        go_call (l01OnChip_any _ _ _) as e w5 ⟨rfl, bw5⟩
        obtain ⟨sw5, zw5, cw5, fw5⟩ := bcell bw5
        try simp only [World.size_alloc, World.size_setCell, World.size_drew] at sw5
        try have lw5_w_0 : w.heap.size < w5.heap.size := by omega
        try have lw5_w_1 : w.heap.size + 1 < w5.heap.size := by omega
        try have lw5_w_2 : w.heap.size + 1 + 1 < w5.heap.size := by omega
        try have lw5_w_3 : w.heap.size + 1 + 1 + 1 < w5.heap.size := by omega
        try have lw5_w_4 : w.heap.size + 1 + 1 + 1 + 1 < w5.heap.size := by omega
        try have lw5_w_5 : w.heap.size + 1 + 1 + 1 + 1 + 1 < w5.heap.size := by omega
        try have lw5_w_6 : w.heap.size + 1 + 1 + 1 + 1 + 1 + 1 < w5.heap.size := by omega
        try have lw5_w1_0 : w1.heap.size < w5.heap.size := by omega
        try have lw5_w1_1 : w1.heap.size + 1 < w5.heap.size := by omega
        try have lw5_w1_2 : w1.heap.size + 1 + 1 < w5.heap.size := by omega
        try have lw5_w1_3 : w1.heap.size + 1 + 1 + 1 < w5.heap.size := by omega
        try have lw5_w1_4 : w1.heap.size + 1 + 1 + 1 + 1 < w5.heap.size := by omega
        try have lw5_w1_5 : w1.heap.size + 1 + 1 + 1 + 1 + 1 < w5.heap.size := by omega
        try have lw5_w1_6 : w1.heap.size + 1 + 1 + 1 + 1 + 1 + 1 < w5.heap.size := by omega
        try have lw5_w2_0 : w2.heap.size < w5.heap.size := by omega
        try have lw5_w2_1 : w2.heap.size + 1 < w5.heap.size := by omega
        try have lw5_w2_2 : w2.heap.size + 1 + 1 < w5.heap.size := by omega
        try have lw5_w2_3 : w2.heap.size + 1 + 1 + 1 < w5.heap.size := by omega
        try have lw5_w2_4 : w2.heap.size + 1 + 1 + 1 + 1 < w5.heap.size := by omega
        try have lw5_w2_5 : w2.heap.size + 1 + 1 + 1 + 1 + 1 < w5.heap.size := by omega
        try have lw5_w2_6 : w2.heap.size + 1 + 1 + 1 + 1 + 1 + 1 < w5.heap.size := by omega
        try have lw5_w3_0 : w3.heap.size < w5.heap.size := by omega
        try have lw5_w3_1 : w3.heap.size + 1 < w5.heap.size := by omega
        try have lw5_w3_2 : w3.heap.size + 1 + 1 < w5.heap.size := by omega
        try have lw5_w3_3 : w3.heap.size + 1 + 1 + 1 < w5.heap.size := by omega
        try have lw5_w3_4 : w3.heap.size + 1 + 1 + 1 + 1 < w5.heap.size := by omega
        try have lw5_w3_5 : w3.heap.size + 1 + 1 + 1 + 1 + 1 < w5.heap.size := by omega
        try have lw5_w3_6 : w3.heap.size + 1 + 1 + 1 + 1 + 1 + 1 < w5.heap.size := by omega
        try have lw5_w4_0 : w4.heap.size < w5.heap.size := by omega
        try have lw5_w4_1 : w4.heap.size + 1 < w5.heap.size := by omega
        try have lw5_w4_2 : w4.heap.size + 1 + 1 < w5.heap.size := by omega
        try have lw5_w4_3 : w4.heap.size + 1 + 1 + 1 < w5.heap.size := by omega
        try have lw5_w4_4 : w4.heap.size + 1 + 1 + 1 + 1 < w5.heap.size := by omega
        try have lw5_w4_5 : w4.heap.size + 1 + 1 + 1 + 1 + 1 < w5.heap.size := by omega
        try have lw5_w4_6 : w4.heap.size + 1 + 1 + 1 + 1 + 1 + 1 < w5.heap.size := by omega
        rw [h3]
        go_wp2_with fail
        refine bodyPost_ret (v := .tuple #[.agg #[.int .i64 0, .int .i64 0, .int .i64 0, .int .i64 0], .bool false]) (by simp [*, results, Tryd.results13, go_sem]) rfl ⟨rfl, ?_⟩
        (repeat (first | (with_reducible exact Below.refl _ _) | (with_reducible refine Ext.drewN ?_ _) | (with_reducible refine Below.drew ?_) | (with_reducible refine Ext.alloc ?_ _) | (with_reducible refine Ext.setCell ?_ (by simp; try omega) _) | (with_reducible refine Ext.trans ?_ (by assumption)) | (with_reducible assumption) | exact Below.refl _ _))
      | true =>
        cases h4 : onB (mvX o x y c d) (mvY o x y c d) with
        | false =>
          rw [meV_no (by simp [meB, h4])]
          go_enter Tryd.func13, Tryd.ntmps13
          go_wp2_with fail
          go_call (specValid_any) as e w1 ⟨rfl, bw1⟩
          obtain ⟨sw1, zw1, cw1, fw1⟩ := bcell bw1
          try simp only [World.size_alloc, World.size_setCell, World.size_drew] at sw1
          try have lw1_w_0 : w.heap.size < w1.heap.size := by omega
          try have lw1_w_1 : w.heap.size + 1 < w1.heap.size := by omega
          try have lw1_w_2 : w.heap.size + 1 + 1 < w1.heap.size := by omega
          try have lw1_w_3 : w.heap.size + 1 + 1 + 1 < w1.heap.size := by omega
          try have lw1_w_4 : w.heap.size + 1 + 1 + 1 + 1 < w1.heap.size := by omega
          try have lw1_w_5 : w.heap.size + 1 + 1 + 1 + 1 + 1 < w1.heap.size := by omega
          try have lw1_w_6 : w.heap.size + 1 + 1 + 1 + 1 + 1 + 1 < w1.heap.size := by omega
          rw [h1]
          go_wp2_with fail
          go_call (specEdgeLength_any _ _ _ _ _) as e w2 ⟨rfl, bw2⟩
          obtain ⟨sw2, zw2, cw2, fw2⟩ := bcell bw2
          try simp only [World.size_alloc, World.size_setCell, World.size_drew] at sw2
          try have lw2_w_0 : w.heap.size < w2.heap.size := by omega
          try have lw2_w_1 : w.heap.size + 1 < w2.heap.size := by omega
          try have lw2_w_2 : w.heap.size + 1 + 1 < w2.heap.size := by omega
          try have lw2_w_3 : w.heap.size + 1 + 1 + 1 < w2.heap.size := by omega
          try have lw2_w_4 : w.heap.size + 1 + 1 + 1 + 1 < w2.heap.size := by omega
          try have lw2_w_5 : w.heap.size + 1 + 1 + 1 + 1 + 1 < w2.heap.size := by omega
          try have lw2_w_6 : w.heap.size + 1 + 1 + 1 + 1 + 1 + 1 < w2.heap.size := by omega
          try have lw2_w1_0 : w1.heap.size < w2.heap.size := by omega
          try have lw2_w1_1 : w1.heap.size + 1 < w2.heap.size := by omega
          try have lw2_w1_2 : w1.heap.size + 1 + 1 < w2.heap.size := by omega
          try have lw2_w1_3 : w1.heap.size + 1 + 1 + 1 < w2.heap.size := by omega
          try have lw2_w1_4 : w1.heap.size + 1 + 1 + 1 + 1 < w2.heap.size := by omega
          try have lw2_w1_5 : w1.heap.size + 1 + 1 + 1 + 1 + 1 < w2.heap.size := by omega
          try have lw2_w1_6 : w1.heap.size + 1 + 1 + 1 + 1 + 1 + 1 < w2.heap.size := by omega
          go_wp2_with fail
          go_call (l01Move_is o x y a b _ (by omega) (by omega) (by omega) (by omega) (by omega) (by omega) (by omega) (by omega) (by omega) (by omega)) as e w3 ⟨rfl, bw3⟩
          obtain ⟨sw3, zw3, cw3, fw3⟩ := bcell bw3
          try simp only [World.size_alloc, World.size_setCell, World.size_drew] at sw3
          try have lw3_w_0 : w.heap.size < w3.heap.size := by omega
          try have lw3_w_1 : w.heap.size + 1 < w3.heap.size := by omega
          try have lw3_w_2 : w.heap.size + 1 + 1 < w3.heap.size := by omega
          try have lw3_w_3 : w.heap.size + 1 + 1 + 1 < w3.heap.size := by omega
          try have lw3_w_4 : w.heap.size + 1 + 1 + 1 + 1 < w3.heap.size := by omega
          try have lw3_w_5 : w.heap.size + 1 + 1 + 1 + 1 + 1 < w3.heap.size := by omega
          try have lw3_w_6 : w.heap.size + 1 + 1 + 1 + 1 + 1 + 1 < w3.heap.size := by omega
          try have lw3_w1_0 : w1.heap.size < w3.heap.size := by omega
          try have lw3_w1_1 : w1.heap.size + 1 < w3.heap.size := by omega
          try have lw3_w1_2 : w1.heap.size + 1 + 1 < w3.heap.size := by omega
          try have lw3_w1_3 : w1.heap.size + 1 + 1 + 1 < w3.heap.size := by omega
          try have lw3_w1_4 : w1.heap.size + 1 + 1 + 1 + 1 < w3.heap.size := by omega
          try have lw3_w1_5 : w1.heap.size + 1 + 1 + 1 + 1 + 1 < w3.heap.size := by omega
          try have lw3_w1_6 : w1.heap.size + 1 + 1 + 1 + 1 + 1 + 1 < w3.heap.size := by omega
          try have lw3_w2_0 : w2.heap.size < w3.heap.size := by omega
          try have lw3_w2_1 : w2.heap.size + 1 < w3.heap.size := by omega
          try have lw3_w2_2 : w2.heap.size + 1 + 1 < w3.heap.size := by omega
          try have lw3_w2_3 : w2.heap.size + 1 + 1 + 1 < w3.heap.size := by omega
          try have lw3_w2_4 : w2.heap.size + 1 + 1 + 1 + 1 < w3.heap.size := by omega
          try have lw3_w2_5 : w2.heap.size + 1 + 1 + 1 + 1 + 1 < w3.heap.size := by omega
          try have lw3_w2_6 : w2.heap.size + 1 + 1 + 1 + 1 + 1 + 1 < w3.heap.size := by omega
          go_wp2_with fail
          go_call (l01Move_is o x y c d _ (by omega) (by omega) (by omega) (by omega) (by omega) (by omega) (by omega) (by omega) (by omega) (by omega)) as e w4 ⟨rfl, bw4⟩
          obtain ⟨sw4, zw4, cw4, fw4⟩ := bcell bw4
          try simp only [World.size_alloc, World.size_setCell, World.size_drew] at sw4
          try have lw4_w_0 : w.heap.size < w4.heap.size := by omega
          try have lw4_w_1 : w.heap.size + 1 < w4.heap.size := by omega
          try have lw4_w_2 : w.heap.size + 1 + 1 < w4.heap.size := by omega
          try have lw4_w_3 : w.heap.size + 1 + 1 + 1 < w4.heap.size := by omega
          try have lw4_w_4 : w.heap.size + 1 + 1 + 1 + 1 < w4.heap.size := by omega
          try have lw4_w_5 : w.heap.size + 1 + 1 + 1 + 1 + 1 < w4.heap.size := by omega
          try have lw4_w_6 : w.heap.size + 1 + 1 + 1 + 1 + 1 + 1 < w4.heap.size := by omega
          try have lw4_w1_0 : w1.heap.size < w4.heap.size := by omega
          try have lw4_w1_1 : w1.heap.size + 1 < w4.heap.size := by omega
          try have lw4_w1_2 : w1.heap.size + 1 + 1 < w4.heap.size := by omega
          try have lw4_w1_3 : w1.heap.size + 1 + 1 + 1 < w4.heap.size := by omega
          try have lw4_w1_4 : w1.heap.size + 1 + 1 + 1 + 1 < w4.heap.size := by omega
          try have lw4_w1_5 : w1.heap.size + 1 + 1 + 1 + 1 + 1 < w4.heap.size := by omega
          try have lw4_w1_6 : w1.heap.size + 1 + 1 + 1 + 1 + 1 + 1 < w4.heap.size := by omega
          try have lw4_w2_0 : w2.heap.size < w4.heap.size := by omega
          try have lw4_w2_1 : w2.heap.size + 1 < w4.heap.size := by omega
          try have lw4_w2_2 : w2.heap.size + 1 + 1 < w4.heap.size := by omega
          try have lw4_w2_3 : w2.heap.size + 1 + 1 + 1 < w4.heap.size := by omega
          try have lw4_w2_4 : w2.heap.size + 1 + 1 + 1 + 1 < w4.heap.size := by omega
          try have lw4_w2_5 : w2.heap.size + 1 + 1 + 1 + 1 + 1 < w4.heap.size := by omega
          try have lw4_w2_6 : w2.heap.size + 1 + 1 + 1 + 1 + 1 + 1 < w4.heap.size := by omega
          try have lw4_w3_0 : w3.heap.size < w4.heap.size := by omega
          try have lw4_w3_1 : w3.heap.size + 1 < w4.heap.size := by omega
          try have lw4_w3_2 : w3.heap.size + 1 + 1 < w4.heap.size := by omega
          try have lw4_w3_3 : w3.heap.size + 1 + 1 + 1 < w4.heap.size := by omega
          try have lw4_w3_4 : w3.heap.size + 1 + 1 + 1 + 1 < w4.heap.size := by omega
          try have lw4_w3_5 : w3.heap.size + 1 + 1 + 1 + 1 + 1 < w4.heap.size := by omega
          try have lw4_w3_6 : w3.heap.size + 1 + 1 + 1 + 1 + 1 + 1 < w4.heap.size := by omega
          go_wp2_with fail
          go_call (l01OnChip_any _ _ _) as e w5 ⟨rfl, bw5⟩
          obtain ⟨sw5, zw5, cw5, fw5⟩ := bcell bw5
          try simp only [World.size_alloc, World.size_setCell, World.size_drew] at sw5
          try have lw5_w_0 : w.heap.size < w5.heap.size := by omega
          try have lw5_w_1 : w.heap.size + 1 < w5.heap.size := by omega
          try have lw5_w_2 : w.heap.size + 1 + 1 < w5.heap.size := by omega
          try have lw5_w_3 : w.heap.size + 1 + 1 + 1 < w5.heap.size := by omega
          try have lw5_w_4 : w.heap.size + 1 + 1 + 1 + 1 < w5.heap.size := by omega
          try have lw5_w_5 : w.heap.size + 1 + 1 + 1 + 1 + 1 < w5.heap.size := by omega
          try have lw5_w_6 : w.heap.size + 1 + 1 + 1 + 1 + 1 + 1 < w5.heap.size := by omega
          try have lw5_w1_0 : w1.heap.size < w5.heap.size := by omega
          try have lw5_w1_1 : w1.heap.size + 1 < w5.heap.size := by omega
          try have lw5_w1_2 : w1.heap.size + 1 + 1 < w5.heap.size := by omega
          try have lw5_w1_3 : w1.heap.size + 1 + 1 + 1 < w5.heap.size := by omega
          try have lw5_w1_4 : w1.heap.size + 1 + 1 + 1 + 1 < w5.heap.size := by omega
          try have lw5_w1_5 : w1.heap.size + 1 + 1 + 1 + 1 + 1 < w5.heap.size := by omega
          try have lw5_w1_6 : w1.heap.size + 1 + 1 + 1 + 1 + 1 + 1 < w5.heap.size := by omega
          try have lw5_w2_0 : w2.heap.size < w5.heap.size := by omega
          try have lw5_w2_1 : w2.heap.size + 1 < w5.heap.size := by omega
          try have lw5_w2_2 : w2.heap.size + 1 + 1 < w5.heap.size := by omega
          try have lw5_w2_3 : w2.heap.size + 1 + 1 + 1 < w5.heap.size := by omega
          try have lw5_w2_4 : w2.heap.size + 1 + 1 + 1 + 1 < w5.heap.size := by omega
          try have lw5_w2_5 : w2.heap.size + 1 + 1 + 1 + 1 + 1 < w5.heap.size := by omega
          try have lw5_w2_6 : w2.heap.size + 1 + 1 + 1 + 1 + 1 + 1 < w5.heap.size := by omega
          try have lw5_w3_0 : w3.heap.size < w5.heap.size := by omega
          try have lw5_w3_1 : w3.heap.size + 1 < w5.heap.size := by omega
          try have lw5_w3_2 : w3.heap.size + 1 + 1 < w5.heap.size := by omega
          try have lw5_w3_3 : w3.heap.size + 1 + 1 + 1 < w5.heap.size := by omega
          try have lw5_w3_4 : w3.heap.size + 1 + 1 + 1 + 1 < w5.heap.size := by omega
          try have lw5_w3_5 : w3.heap.size + 1 + 1 + 1 + 1 + 1 < w5.heap.size := by omega
          try have lw5_w3_6 : w3.heap.size + 1 + 1 + 1 + 1 + 1 + 1 < w5.heap.size := by omega
          try have lw5_w4_0 : w4.heap.size < w5.heap.size := by omega
          try have lw5_w4_1 : w4.heap.size + 1 < w5.heap.size := by omega
          try have lw5_w4_2 : w4.heap.size + 1 + 1 < w5.heap.size := by omega
          try have lw5_w4_3 : w4.heap.size + 1 + 1 + 1 < w5.heap.size := by omega
          try have lw5_w4_4 : w4.heap.size + 1 + 1 + 1 + 1 < w5.heap.size := by omega
          try have lw5_w4_5 : w4.heap.size + 1 + 1 + 1 + 1 + 1 < w5.heap.size := by omega
          try have lw5_w4_6 : w4.heap.size + 1 + 1 + 1 + 1 + 1 + 1 < w5.heap.size := by omega
          rw [h3]
          go_wp2_with fail
          go_call (l01OnChip_any _ _ _) as e w6 ⟨rfl, bw6⟩
          obtain ⟨sw6, zw6, cw6, fw6⟩ := bcell bw6
          try simp only [World.size_alloc, World.size_setCell, World.size_drew] at sw6
          try have lw6_w_0 : w.heap.size < w6.heap.size := by omega
          try have lw6_w_1 : w.heap.size + 1 < w6.heap.size := by omega
          try have lw6_w_2 : w.heap.size + 1 + 1 < w6.heap.size := by omega
          try have lw6_w_3 : w.heap.size + 1 + 1 + 1 < w6.heap.size := by omega
          try have lw6_w_4 : w.heap.size + 1 + 1 + 1 + 1 < w6.heap.size := by omega
          try have lw6_w_5 : w.heap.size + 1 + 1 + 1 + 1 + 1 < w6.heap.size := by omega
          try have lw6_w_6 : w.heap.size + 1 + 1 + 1 + 1 + 1 + 1 < w6.heap.size := by omega
          try have lw6_w1_0 : w1.heap.size < w6.heap.size := by omega
          try have lw6_w1_1 : w1.heap.size + 1 < w6.heap.size := by omega
          try have lw6_w1_2 : w1.heap.size + 1 + 1 < w6.heap.size := by omega
          try have lw6_w1_3 : w1.heap.size + 1 + 1 + 1 < w6.heap.size := by omega
          try have lw6_w1_4 : w1.heap.size + 1 + 1 + 1 + 1 < w6.heap.size := by omega
          try have lw6_w1_5 : w1.heap.size + 1 + 1 + 1 + 1 + 1 < w6.heap.size := by omega
          try have lw6_w1_6 : w1.heap.size + 1 + 1 + 1 + 1 + 1 + 1 < w6.heap.size := by omega
          try have lw6_w2_0 : w2.heap.size < w6.heap.size := by omega
          try have lw6_w2_1 : w2.heap.size + 1 < w6.heap.size := by omega
          try have lw6_w2_2 : w2.heap.size + 1 + 1 < w6.heap.size := by omega
          try have lw6_w2_3 : w2.heap.size + 1 + 1 + 1 < w6.heap.size := by omega
          try have lw6_w2_4 : w2.heap.size + 1 + 1 + 1 + 1 < w6.heap.size := by omega
          try have lw6_w2_5 : w2.heap.size + 1 + 1 + 1 + 1 + 1 < w6.heap.size := by omega
          try have lw6_w2_6 : w2.heap.size + 1 + 1 + 1 + 1 + 1 + 1 < w6.heap.size := by omega
          try have lw6_w3_0 : w3.heap.size < w6.heap.size := by omega
          try have lw6_w3_1 : w3.heap.size + 1 < w6.heap.size := by omega
          try have lw6_w3_2 : w3.heap.size + 1 + 1 < w6.heap.size := by omega
          try have lw6_w3_3 : w3.heap.size + 1 + 1 + 1 < w6.heap.size := by omega
          try have lw6_w3_4 : w3.heap.size + 1 + 1 + 1 + 1 < w6.heap.size := by omega
          try have lw6_w3_5 : w3.heap.size + 1 + 1 + 1 + 1 + 1 < w6.heap.size := by omega
          try have lw6_w3_6 : w3.heap.size + 1 + 1 + 1 + 1 + 1 + 1 < w6.heap.size := by omega
          try have lw6_w4_0 : w4.heap.size < w6.heap.size := by omega
          try have lw6_w4_1 : w4.heap.size + 1 < w6.heap.size := by omega
          try have lw6_w4_2 : w4.heap.size + 1 + 1 < w6.heap.size := by omega
          try have lw6_w4_3 : w4.heap.size + 1 + 1 + 1 < w6.heap.size := by omega
          try have lw6_w4_4 : w4.heap.size + 1 + 1 + 1 + 1 < w6.heap.size := by omega
          try have lw6_w4_5 : w4.heap.size + 1 + 1 + 1 + 1 + 1 < w6.heap.size := by omega
          try have lw6_w4_6 : w4.heap.size + 1 + 1 + 1 + 1 + 1 + 1 < w6.heap.size := by omega
          try have lw6_w5_0 : w5.heap.size < w6.heap.size := by omega
          try have lw6_w5_1 : w5.heap.size + 1 < w6.heap.size := by omega
          try have lw6_w5_2 : w5.heap.size + 1 + 1 < w6.heap.size := by omega
          try have lw6_w5_3 : w5.heap.size + 1 + 1 + 1 < w6.heap.size := by omega
          try have lw6_w5_4 : w5.heap.size + 1 + 1 + 1 + 1 < w6.heap.size := by omega
          try have lw6_w5_5 : w5.heap.size + 1 + 1 + 1 + 1 + 1 < w6.heap.size := by omega
          try have lw6_w5_6 : w5.heap.size + 1 + 1 + 1 + 1 + 1 + 1 < w6.heap.size := by omega
          rw [h4]
          go_wp2_with fail
          refine bodyPost_ret (v := .tuple #[.agg #[.int .i64 0, .int .i64 0, .int .i64 0, .int .i64 0], .bool false]) (by simp [*, results, Tryd.results13, go_sem]) rfl ⟨rfl, ?_⟩
          (repeat (first | (with_reducible exact Below.refl _ _) | (with_reducible refine Ext.drewN ?_ _) | (with_reducible refine Below.drew ?_) | (with_reducible refine Ext.alloc ?_ _) | (with_reducible refine Ext.setCell ?_ (by simp; try omega) _) | (with_reducible refine Ext.trans ?_ (by assumption)) | (with_reducible assumption) | exact Below.refl _ _))
        | true =>
          by_cases h5 : 4 ≤ o
          · rw [meV_hi (by simp only [meB, h1, h2, h3, h4, Bool.and_self]) h5]
            go_enter Tryd.func13, Tryd.ntmps13
            go_wp2_with fail
            go_call (specValid_any) as e w1 ⟨rfl, bw1⟩
            obtain ⟨sw1, zw1, cw1, fw1⟩ := bcell bw1
            try simp only [World.size_alloc, World.size_setCell, World.size_drew] at sw1
            try have lw1_w_0 : w.heap.size < w1.heap.size := by omega
            try have lw1_w_1 : w.heap.size + 1 < w1.heap.size := by omega
            try have lw1_w_2 : w.heap.size + 1 + 1 < w1.heap.size := by omega
            try have lw1_w_3 : w.heap.size + 1 + 1 + 1 < w1.heap.size := by omega
            try have lw1_w_4 : w.heap.size + 1 + 1 + 1 + 1 < w1.heap.size := by omega
            try have lw1_w_5 : w.heap.size + 1 + 1 + 1 + 1 + 1 < w1.heap.size := by omega
            try have lw1_w_6 : w.heap.size + 1 + 1 + 1 + 1 + 1 + 1 < w1.heap.size := by omega
            rw [h1]
            go_wp2_with fail
            go_call (specEdgeLength_any _ _ _ _ _) as e w2 ⟨rfl, bw2⟩
            obtain ⟨sw2, zw2, cw2, fw2⟩ := bcell bw2
            try simp only [World.size_alloc, World.size_setCell, World.size_drew] at sw2
            try have lw2_w_0 : w.heap.size < w2.heap.size := by omega
            try have lw2_w_1 : w.heap.size + 1 < w2.heap.size := by omega
            try have lw2_w_2 : w.heap.size + 1 + 1 < w2.heap.size := by omega
            try have lw2_w_3 : w.heap.size + 1 + 1 + 1 < w2.heap.size := by omega
            try have lw2_w_4 : w.heap.size + 1 + 1 + 1 + 1 < w2.heap.size := by omega
            try have lw2_w_5 : w.heap.size + 1 + 1 + 1 + 1 + 1 < w2.heap.size := by omega
            try have lw2_w_6 : w.heap.size + 1 + 1 + 1 + 1 + 1 + 1 < w2.heap.size := by omega
            try have lw2_w1_0 : w1.heap.size < w2.heap.size := by omega
            try have lw2_w1_1 : w1.heap.size + 1 < w2.heap.size := by omega
            try have lw2_w1_2 : w1.heap.size + 1 + 1 < w2.heap.size := by omega
            try have lw2_w1_3 : w1.heap.size + 1 + 1 + 1 < w2.heap.size := by omega
            try have lw2_w1_4 : w1.heap.size + 1 + 1 + 1 + 1 < w2.heap.size := by omega
            try have lw2_w1_5 : w1.heap.size + 1 + 1 + 1 + 1 + 1 < w2.heap.size := by omega
            try have lw2_w1_6 : w1.heap.size + 1 + 1 + 1 + 1 + 1 + 1 < w2.heap.size := by omega
            go_wp2_with fail
            go_call (l01Move_is o x y a b _ (by omega) (by omega) (by omega) (by omega) (by omega) (by omega) (by omega) (by omega) (by omega) (by omega)) as e w3 ⟨rfl, bw3⟩
            obtain ⟨sw3, zw3, cw3, fw3⟩ := bcell bw3
            try simp only [World.size_alloc, World.size_setCell, World.size_drew] at sw3
            try have lw3_w_0 : w.heap.size < w3.heap.size := by omega
            try have lw3_w_1 : w.heap.size + 1 < w3.heap.size := by omega
            try have lw3_w_2 : w.heap.size + 1 + 1 < w3.heap.size := by omega
            try have lw3_w_3 : w.heap.size + 1 + 1 + 1 < w3.heap.size := by omega
            try have lw3_w_4 : w.heap.size + 1 + 1 + 1 + 1 < w3.heap.size := by omega
            try have lw3_w_5 : w.heap.size + 1 + 1 + 1 + 1 + 1 < w3.heap.size := by omega
            try have lw3_w_6 : w.heap.size + 1 + 1 + 1 + 1 + 1 + 1 < w3.heap.size := by omega
            try have lw3_w1_0 : w1.heap.size < w3.heap.size := by omega
            try have lw3_w1_1 : w1.heap.size + 1 < w3.heap.size := by omega
            try have lw3_w1_2 : w1.heap.size + 1 + 1 < w3.heap.size := by omega
            try have lw3_w1_3 : w1.heap.size + 1 + 1 + 1 < w3.heap.size := by omega
            try have lw3_w1_4 : w1.heap.size + 1 + 1 + 1 + 1 < w3.heap.size := by omega
            try have lw3_w1_5 : w1.heap.size + 1 + 1 + 1 + 1 + 1 < w3.heap.size := by omega
            try have lw3_w1_6 : w1.heap.size + 1 + 1 + 1 + 1 + 1 + 1 < w3.heap.size := by omega
            try have lw3_w2_0 : w2.heap.size < w3.heap.size := by omega
            try have lw3_w2_1 : w2.heap.size + 1 < w3.heap.size := by omega
            try have lw3_w2_2 : w2.heap.size + 1 + 1 < w3.heap.size := by omega
            try have lw3_w2_3 : w2.heap.size + 1 + 1 + 1 < w3.heap.size := by omega
            try have lw3_w2_4 : w2.heap.size + 1 + 1 + 1 + 1 < w3.heap.size := by omega
            try have lw3_w2_5 : w2.heap.size + 1 + 1 + 1 + 1 + 1 < w3.heap.size := by omega
            try have lw3_w2_6 : w2.heap.size + 1 + 1 + 1 + 1 + 1 + 1 < w3.heap.size := by omega
            go_wp2_with fail
            go_call (l01Move_is o x y c d _ (by omega) (by omega) (by omega) (by omega) (by omega) (by omega) (by omega) (by omega) (by omega) (by omega)) as e w4 ⟨rfl, bw4⟩
            obtain ⟨sw4, zw4, cw4, fw4⟩ := bcell bw4
            try simp only [World.size_alloc, World.size_setCell, World.size_drew] at sw4
            try have lw4_w_0 : w.heap.size < w4.heap.size := by omega
            try have lw4_w_1 : w.heap.size + 1 < w4.heap.size := by omega
            try have lw4_w_2 : w.heap.size + 1 + 1 < w4.heap.size := by omega
            try have lw4_w_3 : w.heap.size + 1 + 1 + 1 < w4.heap.size := by omega
            try have lw4_w_4 : w.heap.size + 1 + 1 + 1 + 1 < w4.heap.size := by omega
            try have lw4_w_5 : w.heap.size + 1 + 1 + 1 + 1 + 1 < w4.heap.size := by omega
            try have lw4_w_6 : w.heap.size + 1 + 1 + 1 + 1 + 1 + 1 < w4.heap.size := by omega
            try have lw4_w1_0 : w1.heap.size < w4.heap.size := by omega
            try have lw4_w1_1 : w1.heap.size + 1 < w4.heap.size := by omega
            try have lw4_w1_2 : w1.heap.size + 1 + 1 < w4.heap.size := by omega
            try have lw4_w1_3 : w1.heap.size + 1 + 1 + 1 < w4.heap.size := by omega
            try have lw4_w1_4 : w1.heap.size + 1 + 1 + 1 + 1 < w4.heap.size := by omega
            try have lw4_w1_5 : w1.heap.size + 1 + 1 + 1 + 1 + 1 < w4.heap.size := by omega
            try have lw4_w1_6 : w1.heap.size + 1 + 1 + 1 + 1 + 1 + 1 < w4.heap.size := by omega
            try have lw4_w2_0 : w2.heap.size < w4.heap.size := by omega
            try have lw4_w2_1 : w2.heap.size + 1 < w4.heap.size := by omega
            try have lw4_w2_2 : w2.heap.size + 1 + 1 < w4.heap.size := by omega
            try have lw4_w2_3 : w2.heap.size + 1 + 1 + 1 < w4.heap.size := by omega
            try have lw4_w2_4 : w2.heap.size + 1 + 1 + 1 + 1 < w4.heap.size := by omega
            try have lw4_w2_5 : w2.heap.size + 1 + 1 + 1 + 1 + 1 < w4.heap.size := by omega
            try have lw4_w2_6 : w2.heap.size + 1 + 1 + 1 + 1 + 1 + 1 < w4.heap.size := by omega
            try have lw4_w3_0 : w3.heap.size < w4.heap.size := by omega
            try have lw4_w3_1 : w3.heap.size + 1 < w4.heap.size := by omega
            try have lw4_w3_2 : w3.heap.size + 1 + 1 < w4.heap.size := by omega
            try have lw4_w3_3 : w3.heap.size + 1 + 1 + 1 < w4.heap.size := by omega
            try have lw4_w3_4 : w3.heap.size + 1 + 1 + 1 + 1 < w4.heap.size := by omega
            try have lw4_w3_5 : w3.heap.size + 1 + 1 + 1 + 1 + 1 < w4.heap.size := by omega
            try have lw4_w3_6 : w3.heap.size + 1 + 1 + 1 + 1 + 1 + 1 < w4.heap.size := by omega
            go_wp2_with fail
            go_call (l01OnChip_any _ _ _) as e w5 ⟨rfl, bw5⟩
            obtain ⟨sw5, zw5, cw5, fw5⟩ := bcell bw5
            try simp only [World.size_alloc, World.size_setCell, World.size_drew] at sw5
            try have lw5_w_0 : w.heap.size < w5.heap.size := by omega
            try have lw5_w_1 : w.heap.size + 1 < w5.heap.size := by omega
            try have lw5_w_2 : w.heap.size + 1 + 1 < w5.heap.size := by omega
            try have lw5_w_3 : w.heap.size + 1 + 1 + 1 < w5.heap.size := by omega
            try have lw5_w_4 : w.heap.size + 1 + 1 + 1 + 1 < w5.heap.size := by omega
            try have lw5_w_5 : w.heap.size + 1 + 1 + 1 + 1 + 1 < w5.heap.size := by omega
            try have lw5_w_6 : w.heap.size + 1 + 1 + 1 + 1 + 1 + 1 < w5.heap.size := by omega
            try have lw5_w1_0 : w1.heap.size < w5.heap.size := by omega
            try have lw5_w1_1 : w1.heap.size + 1 < w5.heap.size := by omega
            try have lw5_w1_2 : w1.heap.size + 1 + 1 < w5.heap.size := by omega
            try have lw5_w1_3 : w1.heap.size + 1 + 1 + 1 < w5.heap.size := by omega
            try have lw5_w1_4 : w1.heap.size + 1 + 1 + 1 + 1 < w5.heap.size := by omega
            try have lw5_w1_5 : w1.heap.size + 1 + 1 + 1 + 1 + 1 < w5.heap.size := by omega
            try have lw5_w1_6 : w1.heap.size + 1 + 1 + 1 + 1 + 1 + 1 < w5.heap.size := by omega
            try have lw5_w2_0 : w2.heap.size < w5.heap.size := by omega
            try have lw5_w2_1 : w2.heap.size + 1 < w5.heap.size := by omega
            try have lw5_w2_2 : w2.heap.size + 1 + 1 < w5.heap.size := by omega
            try have lw5_w2_3 : w2.heap.size + 1 + 1 + 1 < w5.heap.size := by omega
            try have lw5_w2_4 : w2.heap.size + 1 + 1 + 1 + 1 < w5.heap.size := by omega
            try have lw5_w2_5 : w2.heap.size + 1 + 1 + 1 + 1 + 1 < w5.heap.size := by omega
            try have lw5_w2_6 : w2.heap.size + 1 + 1 + 1 + 1 + 1 + 1 < w5.heap.size := by omega
            try have lw5_w3_0 : w3.heap.size < w5.heap.size := by omega
            try have lw5_w3_1 : w3.heap.size + 1 < w5.heap.size := by omega
            try have lw5_w3_2 : w3.heap.size + 1 + 1 < w5.heap.size := by omega
            try have lw5_w3_3 : w3.heap.size + 1 + 1 + 1 < w5.heap.size := by omega
            try have lw5_w3_4 : w3.heap.size + 1 + 1 + 1 + 1 < w5.heap.size := by omega
            try have lw5_w3_5 : w3.heap.size + 1 + 1 + 1 + 1 + 1 < w5.heap.size := by omega
            try have lw5_w3_6 : w3.heap.size + 1 + 1 + 1 + 1 + 1 + 1 < w5.heap.size := by omega
            try have lw5_w4_0 : w4.heap.size < w5.heap.size := by omega
            try have lw5_w4_1 : w4.heap.size + 1 < w5.heap.size := by omega
            try have lw5_w4_2 : w4.heap.size + 1 + 1 < w5.heap.size := by omega
            try have lw5_w4_3 : w4.heap.size + 1 + 1 + 1 < w5.heap.size := by omega
            try have lw5_w4_4 : w4.heap.size + 1 + 1 + 1 + 1 < w5.heap.size := by omega
            try have lw5_w4_5 : w4.heap.size + 1 + 1 + 1 + 1 + 1 < w5.heap.size := by omega
            try have lw5_w4_6 : w4.heap.size + 1 + 1 + 1 + 1 + 1 + 1 < w5.heap.size := by omega
            rw [h3]
            go_wp2_with fail
            go_call (l01OnChip_any _ _ _) as e w6 ⟨rfl, bw6⟩
            obtain ⟨sw6, zw6, cw6, fw6⟩ := bcell bw6
            try simp only [World.size_alloc, World.size_setCell, World.size_drew] at sw6
            try have lw6_w_0 : w.heap.size < w6.heap.size := by omega
            try have lw6_w_1 : w.heap.size + 1 < w6.heap.size := by omega
            try have lw6_w_2 : w.heap.size + 1 + 1 < w6.heap.size := by omega
            try have lw6_w_3 : w.heap.size + 1 + 1 + 1 < w6.heap.size := by omega
            try have lw6_w_4 : w.heap.size + 1 + 1 + 1 + 1 < w6.heap.size := by omega
            try have lw6_w_5 : w.heap.size + 1 + 1 + 1 + 1 + 1 < w6.heap.size := by omega
            try have lw6_w_6 : w.heap.size + 1 + 1 + 1 + 1 + 1 + 1 < w6.heap.size := by omega
            try have lw6_w1_0 : w1.heap.size < w6.heap.size := by omega
            try have lw6_w1_1 : w1.heap.size + 1 < w6.heap.size := by omega
            try have lw6_w1_2 : w1.heap.size + 1 + 1 < w6.heap.size := by omega
            try have lw6_w1_3 : w1.heap.size + 1 + 1 + 1 < w6.heap.size := by omega
            try have lw6_w1_4 : w1.heap.size + 1 + 1 + 1 + 1 < w6.heap.size := by omega
            try have lw6_w1_5 : w1.heap.size + 1 + 1 + 1 + 1 + 1 < w6.heap.size := by omega
            try have lw6_w1_6 : w1.heap.size + 1 + 1 + 1 + 1 + 1 + 1 < w6.heap.size := by omega
            try have lw6_w2_0 : w2.heap.size < w6.heap.size := by omega
            try have lw6_w2_1 : w2.heap.size + 1 < w6.heap.size := by omega
            try have lw6_w2_2 : w2.heap.size + 1 + 1 < w6.heap.size := by omega
            try have lw6_w2_3 : w2.heap.size + 1 + 1 + 1 < w6.heap.size := by omega
            try have lw6_w2_4 : w2.heap.size + 1 + 1 + 1 + 1 < w6.heap.size := by omega
            try have lw6_w2_5 : w2.heap.size + 1 + 1 + 1 + 1 + 1 < w6.heap.size := by omega
            try have lw6_w2_6 : w2.heap.size + 1 + 1 + 1 + 1 + 1 + 1 < w6.heap.size := by omega
            try have lw6_w3_0 : w3.heap.size < w6.heap.size := by omega
            try have lw6_w3_1 : w3.heap.size + 1 < w6.heap.size := by omega
            try have lw6_w3_2 : w3.heap.size + 1 + 1 < w6.heap.size := by omega
            try have lw6_w3_3 : w3.heap.size + 1 + 1 + 1 < w6.heap.size := by omega
            try have lw6_w3_4 : w3.heap.size + 1 + 1 + 1 + 1 < w6.heap.size := by omega
            try have lw6_w3_5 : w3.heap.size + 1 + 1 + 1 + 1 + 1 < w6.heap.size := by omega
            try have lw6_w3_6 : w3.heap.size + 1 + 1 + 1 + 1 + 1 + 1 < w6.heap.size := by omega
            try have lw6_w4_0 : w4.heap.size < w6.heap.size := by omega
            try have lw6_w4_1 : w4.heap.size + 1 < w6.heap.size := by omega
            try have lw6_w4_2 : w4.heap.size + 1 + 1 < w6.heap.size := by omega
            try have lw6_w4_3 : w4.heap.size + 1 + 1 + 1 < w6.heap.size := by omega
            try have lw6_w4_4 : w4.heap.size + 1 + 1 + 1 + 1 < w6.heap.size := by omega
            try have lw6_w4_5 : w4.heap.size + 1 + 1 + 1 + 1 + 1 < w6.heap.size := by omega
            try have lw6_w4_6 : w4.heap.size + 1 + 1 + 1 + 1 + 1 + 1 < w6.heap.size := by omega
            try have lw6_w5_0 : w5.heap.size < w6.heap.size := by omega
            try have lw6_w5_1 : w5.heap.size + 1 < w6.heap.size := by omega
            try have lw6_w5_2 : w5.heap.size + 1 + 1 < w6.heap.size := by omega
            try have lw6_w5_3 : w5.heap.size + 1 + 1 + 1 < w6.heap.size := by omega
            try have lw6_w5_4 : w5.heap.size + 1 + 1 + 1 + 1 < w6.heap.size := by omega
            try have lw6_w5_5 : w5.heap.size + 1 + 1 + 1 + 1 + 1 < w6.heap.size := by omega
            try have lw6_w5_6 : w5.heap.size + 1 + 1 + 1 + 1 + 1 + 1 < w6.heap.size := by omega
            rw [h4]
            have a0 : w6.cell? ⟨w3.heap.size, 0, none⟩ = some (.int .i64 (mvX o x y a b)) := by simp [go_sem, *]
            have a1 : w6.cell? ⟨w3.heap.size, 1, none⟩ = some (.int .i64 (mvY o x y a b)) := by simp [go_sem, *]
            have a2 : w6.cell? ⟨w4.heap.size, 0, none⟩ = some (.int .i64 (mvX o x y c d)) := by simp [go_sem, *]
            have a3 : w6.cell? ⟨w4.heap.size, 1, none⟩ = some (.int .i64 (mvY o x y c d)) := by simp [go_sem, *]
            obtain ⟨k0, k1, k2, k3⟩ := swapCells (v0 := .int .i64 (mvX o x y c d)) (v1 := .int .i64 (mvY o x y c d)) (v2 := .int .i64 (mvX o x y a b)) (v3 := .int .i64 (mvY o x y a b)) (by omega) a0 a1 a2 a3
            go_wp2_with fail
            refine bodyPost_ret (v := .tuple #[.agg #[.int .i64 (mvX o x y c d), .int .i64 (mvY o x y c d), .int .i64 (mvX o x y a b), .int .i64 (mvY o x y a b)], .bool true]) (by simp [*, results, Tryd.results13, go_sem]) rfl ⟨rfl, ?_⟩
            (repeat (first | (with_reducible exact Below.refl _ _) | (with_reducible refine Ext.drewN ?_ _) | (with_reducible refine Below.drew ?_) | (with_reducible refine Ext.alloc ?_ _) | (with_reducible refine Ext.setCell ?_ (by simp; try omega) _) | (with_reducible refine Ext.trans ?_ (by assumption)) | (with_reducible assumption) | exact Below.refl _ _))
          · rw [meV_lo (by simp only [meB, h1, h2, h3, h4, Bool.and_self]) h5]
            go_enter Tryd.func13, Tryd.ntmps13
            go_wp2_with fail
            go_call (specValid_any) as e w1 ⟨rfl, bw1⟩
            obtain ⟨sw1, zw1, cw1, fw1⟩ := bcell bw1
            try simp only [World.size_alloc, World.size_setCell, World.size_drew] at sw1
            try have lw1_w_0 : w.heap.size < w1.heap.size := by omega
            try have lw1_w_1 : w.heap.size + 1 < w1.heap.size := by omega
            try have lw1_w_2 : w.heap.size + 1 + 1 < w1.heap.size := by omega
            try have lw1_w_3 : w.heap.size + 1 + 1 + 1 < w1.heap.size := by omega
            try have lw1_w_4 : w.heap.size + 1 + 1 + 1 + 1 < w1.heap.size := by omega
            try have lw1_w_5 : w.heap.size + 1 + 1 + 1 + 1 + 1 < w1.heap.size := by omega
            try have lw1_w_6 : w.heap.size + 1 + 1 + 1 + 1 + 1 + 1 < w1.heap.size := by omega
            rw [h1]
            go_wp2_with fail
            go_call (specEdgeLength_any _ _ _ _ _) as e w2 ⟨rfl, bw2⟩
            obtain ⟨sw2, zw2, cw2, fw2⟩ := bcell bw2
            try simp only [World.size_alloc, World.size_setCell, World.size_drew] at sw2
            try have lw2_w_0 : w.heap.size < w2.heap.size := by omega
            try have lw2_w_1 : w.heap.size + 1 < w2.heap.size := by omega
            try have lw2_w_2 : w.heap.size + 1 + 1 < w2.heap.size := by omega
            try have lw2_w_3 : w.heap.size + 1 + 1 + 1 < w2.heap.size := by omega
            try have lw2_w_4 : w.heap.size + 1 + 1 + 1 + 1 < w2.heap.size := by omega
            try have lw2_w_5 : w.heap.size + 1 + 1 + 1 + 1 + 1 < w2.heap.size := by omega
            try have lw2_w_6 : w.heap.size + 1 + 1 + 1 + 1 + 1 + 1 < w2.heap.size := by omega
            try have lw2_w1_0 : w1.heap.size < w2.heap.size := by omega
            try have lw2_w1_1 : w1.heap.size + 1 < w2.heap.size := by omega
            try have lw2_w1_2 : w1.heap.size + 1 + 1 < w2.heap.size := by omega
            try have lw2_w1_3 : w1.heap.size + 1 + 1 + 1 < w2.heap.size := by omega
            try have lw2_w1_4 : w1.heap.size + 1 + 1 + 1 + 1 < w2.heap.size := by omega
            try have lw2_w1_5 : w1.heap.size + 1 + 1 + 1 + 1 + 1 < w2.heap.size := by omega
            try have lw2_w1_6 : w1.heap.size + 1 + 1 + 1 + 1 + 1 + 1 < w2.heap.size := by omega
            go_wp2_with fail
            go_call (l01Move_is o x y a b _ (by omega) (by omega) (by omega) (by omega) (by omega) (by omega) (by omega) (by omega) (by omega) (by omega)) as e w3 ⟨rfl, bw3⟩
            obtain ⟨sw3, zw3, cw3, fw3⟩ := bcell bw3
            try simp only [World.size_alloc, World.size_setCell, World.size_drew] at sw3
            try have lw3_w_0 : w.heap.size < w3.heap.size := by omega
            try have lw3_w_1 : w.heap.size + 1 < w3.heap.size := by omega
            try have lw3_w_2 : w.heap.size + 1 + 1 < w3.heap.size := by omega
            try have lw3_w_3 : w.heap.size + 1 + 1 + 1 < w3.heap.size := by omega
            try have lw3_w_4 : w.heap.size + 1 + 1 + 1 + 1 < w3.heap.size := by omega
            try have lw3_w_5 : w.heap.size + 1 + 1 + 1 + 1 + 1 < w3.heap.size := by omega
            try have lw3_w_6 : w.heap.size + 1 + 1 + 1 + 1 + 1 + 1 < w3.heap.size := by omega
            try have lw3_w1_0 : w1.heap.size < w3.heap.size := by omega
            try have lw3_w1_1 : w1.heap.size + 1 < w3.heap.size := by omega
            try have lw3_w1_2 : w1.heap.size + 1 + 1 < w3.heap.size := by omega
            try have lw3_w1_3 : w1.heap.size + 1 + 1 + 1 < w3.heap.size := by omega
            try have lw3_w1_4 : w1.heap.size + 1 + 1 + 1 + 1 < w3.heap.size := by omega
            try have lw3_w1_5 : w1.heap.size + 1 + 1 + 1 + 1 + 1 < w3.heap.size := by omega
            try have lw3_w1_6 : w1.heap.size + 1 + 1 + 1 + 1 + 1 + 1 < w3.heap.size := by omega
            try have lw3_w2_0 : w2.heap.size < w3.heap.size := by omega
            try have lw3_w2_1 : w2.heap.size + 1 < w3.heap.size := by omega
            try have lw3_w2_2 : w2.heap.size + 1 + 1 < w3.heap.size := by omega
            try have lw3_w2_3 : w2.heap.size + 1 + 1 + 1 < w3.heap.size := by omega
            try have lw3_w2_4 : w2.heap.size + 1 + 1 + 1 + 1 < w3.heap.size := by omega
            try have lw3_w2_5 : w2.heap.size + 1 + 1 + 1 + 1 + 1 < w3.heap.size := by omega
            try have lw3_w2_6 : w2.heap.size + 1 + 1 + 1 + 1 + 1 + 1 < w3.heap.size := by omega
            go_wp2_with fail
            go_call (l01Move_is o x y c d _ (by omega) (by omega) (by omega) (by omega) (by omega) (by omega) (by omega) (by omega) (by omega) (by omega)) as e w4 ⟨rfl, bw4⟩
            obtain ⟨sw4, zw4, cw4, fw4⟩ := bcell bw4
            try simp only [World.size_alloc, World.size_setCell, World.size_drew] at sw4
            try have lw4_w_0 : w.heap.size < w4.heap.size := by omega
            try have lw4_w_1 : w.heap.size + 1 < w4.heap.size := by omega
            try have lw4_w_2 : w.heap.size + 1 + 1 < w4.heap.size := by omega
            try have lw4_w_3 : w.heap.size + 1 + 1 + 1 < w4.heap.size := by omega
            try have lw4_w_4 : w.heap.size + 1 + 1 + 1 + 1 < w4.heap.size := by omega
            try have lw4_w_5 : w.heap.size + 1 + 1 + 1 + 1 + 1 < w4.heap.size := by omega
            try have lw4_w_6 : w.heap.size + 1 + 1 + 1 + 1 + 1 + 1 < w4.heap.size := by omega
            try have lw4_w1_0 : w1.heap.size < w4.heap.size := by omega
            try have lw4_w1_1 : w1.heap.size + 1 < w4.heap.size := by omega
            try have lw4_w1_2 : w1.heap.size + 1 + 1 < w4.heap.size := by omega
            try have lw4_w1_3 : w1.heap.size + 1 + 1 + 1 < w4.heap.size := by omega
            try have lw4_w1_4 : w1.heap.size + 1 + 1 + 1 + 1 < w4.heap.size := by omega
            try have lw4_w1_5 : w1.heap.size + 1 + 1 + 1 + 1 + 1 < w4.heap.size := by omega
            try have lw4_w1_6 : w1.heap.size + 1 + 1 + 1 + 1 + 1 + 1 < w4.heap.size := by omega
            try have lw4_w2_0 : w2.heap.size < w4.heap.size := by omega
            try have lw4_w2_1 : w2.heap.size + 1 < w4.heap.size := by omega
            try have lw4_w2_2 : w2.heap.size + 1 + 1 < w4.heap.size := by omega
            try have lw4_w2_3 : w2.heap.size + 1 + 1 + 1 < w4.heap.size := by omega
            try have lw4_w2_4 : w2.heap.size + 1 + 1 + 1 + 1 < w4.heap.size := by omega
            try have lw4_w2_5 : w2.heap.size + 1 + 1 + 1 + 1 + 1 < w4.heap.size := by omega
            try have lw4_w2_6 : w2.heap.size + 1 + 1 + 1 + 1 + 1 + 1 < w4.heap.size := by omega
            try have lw4_w3_0 : w3.heap.size < w4.heap.size := by omega
            try have lw4_w3_1 : w3.heap.size + 1 < w4.heap.size := by omega
            try have lw4_w3_2 : w3.heap.size + 1 + 1 < w4.heap.size := by omega
            try have lw4_w3_3 : w3.heap.size + 1 + 1 + 1 < w4.heap.size := by omega
            try have lw4_w3_4 : w3.heap.size + 1 + 1 + 1 + 1 < w4.heap.size := by omega
            try have lw4_w3_5 : w3.heap.size + 1 + 1 + 1 + 1 + 1 < w4.heap.size := by omega
            try have lw4_w3_6 : w3.heap.size + 1 + 1 + 1 + 1 + 1 + 1 < w4.heap.size := by omega
            go_wp2_with fail
            go_call (l01OnChip_any _ _ _) as e w5 ⟨rfl, bw5⟩
            obtain ⟨sw5, zw5, cw5, fw5⟩ := bcell bw5
            try simp only [World.size_alloc, World.size_setCell, World.size_drew] at sw5
            try have lw5_w_0 : w.heap.size < w5.heap.size := by omega
            try have lw5_w_1 : w.heap.size + 1 < w5.heap.size := by omega
            try have lw5_w_2 : w.heap.size + 1 + 1 < w5.heap.size := by omega
            try have lw5_w_3 : w.heap.size + 1 + 1 + 1 < w5.heap.size := by omega
            try have lw5_w_4 : w.heap.size + 1 + 1 + 1 + 1 < w5.heap.size := by omega
            try have lw5_w_5 : w.heap.size + 1 + 1 + 1 + 1 + 1 < w5.heap.size := by omega
            try have lw5_w_6 : w.heap.size + 1 + 1 + 1 + 1 + 1 + 1 < w5.heap.size := by omega
            try have lw5_w1_0 : w1.heap.size < w5.heap.size := by omega
            try have lw5_w1_1 : w1.heap.size + 1 < w5.heap.size := by omega
            try have lw5_w1_2 : w1.heap.size + 1 + 1 < w5.heap.size := by omega
            try have lw5_w1_3 : w1.heap.size + 1 + 1 + 1 < w5.heap.size := by omega
            try have lw5_w1_4 : w1.heap.size + 1 + 1 + 1 + 1 < w5.heap.size := by omega
            try have lw5_w1_5 : w1.heap.size + 1 + 1 + 1 + 1 + 1 < w5.heap.size := by omega
            try have lw5_w1_6 : w1.heap.size + 1 + 1 + 1 + 1 + 1 + 1 < w5.heap.size := by omega
            try have lw5_w2_0 : w2.heap.size < w5.heap.size := by omega
            try have lw5_w2_1 : w2.heap.size + 1 < w5.heap.size := by omega
            try have lw5_w2_2 : w2.heap.size + 1 + 1 < w5.heap.size := by omega
            try have lw5_w2_3 : w2.heap.size + 1 + 1 + 1 < w5.heap.size := by omega
            try have lw5_w2_4 : w2.heap.size + 1 + 1 + 1 + 1 < w5.heap.size := by omega
            try have lw5_w2_5 : w2.heap.size + 1 + 1 + 1 + 1 + 1 < w5.heap.size := by omega
            try have lw5_w2_6 : w2.heap.size + 1 + 1 + 1 + 1 + 1 + 1 < w5.heap.size := by omega
            try have lw5_w3_0 : w3.heap.size < w5.heap.size := by omega
            try have lw5_w3_1 : w3.heap.size + 1 < w5.heap.size := by omega
            try have lw5_w3_2 : w3.heap.size + 1 + 1 < w5.heap.size := by omega
            try have lw5_w3_3 : w3.heap.size + 1 + 1 + 1 < w5.heap.size := by omega
            try have lw5_w3_4 : w3.heap.size + 1 + 1 + 1 + 1 < w5.heap.size := by omega
            try have lw5_w3_5 : w3.heap.size + 1 + 1 + 1 + 1 + 1 < w5.heap.size := by omega
            try have lw5_w3_6 : w3.heap.size + 1 + 1 + 1 + 1 + 1 + 1 < w5.heap.size := by omega
            try have lw5_w4_0 : w4.heap.size < w5.heap.size := by omega
            try have lw5_w4_1 : w4.heap.size + 1 < w5.heap.size := by omega
            try have lw5_w4_2 : w4.heap.size + 1 + 1 < w5.heap.size := by omega
            try have lw5_w4_3 : w4.heap.size + 1 + 1 + 1 < w5.heap.size := by omega
            try have lw5_w4_4 : w4.heap.size + 1 + 1 + 1 + 1 < w5.heap.size := by omega
            try have lw5_w4_5 : w4.heap.size + 1 + 1 + 1 + 1 + 1 < w5.heap.size := by omega
            try have lw5_w4_6 : w4.heap.size + 1 + 1 + 1 + 1 + 1 + 1 < w5.heap.size := by omega
            rw [h3]
            go_wp2_with fail
            go_call (l01OnChip_any _ _ _) as e w6 ⟨rfl, bw6⟩
            obtain ⟨sw6, zw6, cw6, fw6⟩ := bcell bw6
            try simp only [World.size_alloc, World.size_setCell, World.size_drew] at sw6
            try have lw6_w_0 : w.heap.size < w6.heap.size := by omega
            try have lw6_w_1 : w.heap.size + 1 < w6.heap.size := by omega
            try have lw6_w_2 : w.heap.size + 1 + 1 < w6.heap.size := by omega
            try have lw6_w_3 : w.heap.size + 1 + 1 + 1 < w6.heap.size := by omega
            try have lw6_w_4 : w.heap.size + 1 + 1 + 1 + 1 < w6.heap.size := by omega
            try have lw6_w_5 : w.heap.size + 1 + 1 + 1 + 1 + 1 < w6.heap.size := by omega
            try have lw6_w_6 : w.heap.size + 1 + 1 + 1 + 1 + 1 + 1 < w6.heap.size := by omega
            try have lw6_w1_0 : w1.heap.size < w6.heap.size := by omega
            try have lw6_w1_1 : w1.heap.size + 1 < w6.heap.size := by omega
            try have lw6_w1_2 : w1.heap.size + 1 + 1 < w6.heap.size := by omega
            try have lw6_w1_3 : w1.heap.size + 1 + 1 + 1 < w6.heap.size := by omega
            try have lw6_w1_4 : w1.heap.size + 1 + 1 + 1 + 1 < w6.heap.size := by omega
            try have lw6_w1_5 : w1.heap.size + 1 + 1 + 1 + 1 + 1 < w6.heap.size := by omega
            try have lw6_w1_6 : w1.heap.size + 1 + 1 + 1 + 1 + 1 + 1 < w6.heap.size := by omega
            try have lw6_w2_0 : w2.heap.size < w6.heap.size := by omega
            try have lw6_w2_1 : w2.heap.size + 1 < w6.heap.size := by omega
            try have lw6_w2_2 : w2.heap.size + 1 + 1 < w6.heap.size := by omega
            try have lw6_w2_3 : w2.heap.size + 1 + 1 + 1 < w6.heap.size := by omega
            try have lw6_w2_4 : w2.heap.size + 1 + 1 + 1 + 1 < w6.heap.size := by omega
            try have lw6_w2_5 : w2.heap.size + 1 + 1 + 1 + 1 + 1 < w6.heap.size := by omega
            try have lw6_w2_6 : w2.heap.size + 1 + 1 + 1 + 1 + 1 + 1 < w6.heap.size := by omega
            try have lw6_w3_0 : w3.heap.size < w6.heap.size := by omega
            try have lw6_w3_1 : w3.heap.size + 1 < w6.heap.size := by omega
            try have lw6_w3_2 : w3.heap.size + 1 + 1 < w6.heap.size := by omega
            try have lw6_w3_3 : w3.heap.size + 1 + 1 + 1 < w6.heap.size := by omega
            try have lw6_w3_4 : w3.heap.size + 1 + 1 + 1 + 1 < w6.heap.size := by omega
            try have lw6_w3_5 : w3.heap.size + 1 + 1 + 1 + 1 + 1 < w6.heap.size := by omega
            try have lw6_w3_6 : w3.heap.size + 1 + 1 + 1 + 1 + 1 + 1 < w6.heap.size := by omega
            try have lw6_w4_0 : w4.heap.size < w6.heap.size := by omega
            try have lw6_w4_1 : w4.heap.size + 1 < w6.heap.size := by omega
            try have lw6_w4_2 : w4.heap.size + 1 + 1 < w6.heap.size := by omega
            try have lw6_w4_3 : w4.heap.size + 1 + 1 + 1 < w6.heap.size := by omega
            try have lw6_w4_4 : w4.heap.size + 1 + 1 + 1 + 1 < w6.heap.size := by omega
            try have lw6_w4_5 : w4.heap.size + 1 + 1 + 1 + 1 + 1 < w6.heap.size := by omega
            try have lw6_w4_6 : w4.heap.size + 1 + 1 + 1 + 1 + 1 + 1 < w6.heap.size := by omega
            try have lw6_w5_0 : w5.heap.size < w6.heap.size := by omega
            try have lw6_w5_1 : w5.heap.size + 1 < w6.heap.size := by omega
            try have lw6_w5_2 : w5.heap.size + 1 + 1 < w6.heap.size := by omega
            try have lw6_w5_3 : w5.heap.size + 1 + 1 + 1 < w6.heap.size := by omega
            try have lw6_w5_4 : w5.heap.size + 1 + 1 + 1 + 1 < w6.heap.size := by omega
            try have lw6_w5_5 : w5.heap.size + 1 + 1 + 1 + 1 + 1 < w6.heap.size := by omega
            try have lw6_w5_6 : w5.heap.size + 1 + 1 + 1 + 1 + 1 + 1 < w6.heap.size := by omega
            rw [h4]
            go_wp2_with fail
            refine bodyPost_ret (v := .tuple #[.agg #[.int .i64 (mvX o x y a b), .int .i64 (mvY o x y a b), .int .i64 (mvX o x y c d), .int .i64 (mvY o x y c d)], .bool true]) (by simp [*, results, Tryd.results13, go_sem]) rfl ⟨rfl, ?_⟩
            (repeat (first | (with_reducible exact Below.refl _ _) | (with_reducible refine Ext.drewN ?_ _) | (with_reducible refine Below.drew ?_) | (with_reducible refine Ext.alloc ?_ _) | (with_reducible refine Ext.setCell ?_ (by simp; try omega) _) | (with_reducible refine Ext.trans ?_ (by assumption)) | (with_reducible assumption) | exact Below.refl _ _))
end Go.Proofs.YtmabdemdapnmkaaDoor
