/- Rectangles: abutment, gaps. Conditions: none but those of each theorem. -/
import Derived.Test.YtdcddneanbplpaaDoorReD
namespace Go.Proofs.YtdcddneanbplpaaDoor
open Go.RowKit
set_option linter.unusedVariables false
set_option linter.unusedSimpArgs false
attribute [local go_sem ↓] Go.wp_at_zero Go.wp_at_succ

def abP (a b c d p q r s : Int) : Bool := decide ((lo2 c r - hi2 a p = 0 ∧ lo2 d s - hi2 b q > 0) ∨ (lo2 c r - hi2 a p > 0 ∧ lo2 d s - hi2 b q = 0))
def abB (a b c d p q r s : Int) : Bool := rvB a b c d && (rvB p q r s && abP a b c d p q r s)

theorem span_w (a b c d : Int) (w : World) : Calls Tryd.prog 71 #[.int .i64 a, .int .i64 b, .int .i64 c, .int .i64 d] w fun e w' => e = .returned (.int .i64 (wrap64 (lo2 b d - hi2 a c))) ∧ Below w.heap.size w w' :=
  (l02Span_any a b c d w).mono fun e w' ⟨he, hw⟩ => ⟨he, Ext.same hw⟩

theorem span_is (a b c d X : Int) (w : World) (hX : lo2 b d - hi2 a c = X) (h1 : -1000 ≤ X) (h2 : X ≤ 1000) : Calls Tryd.prog 71 #[.int .i64 a, .int .i64 b, .int .i64 c, .int .i64 d] w fun e w' => e = .returned (.int .i64 X) ∧ Below w.heap.size w w' := by
  refine (l02Span_any a b c d w).mono fun e w' ⟨he, hw⟩ => ⟨?_, Ext.same hw⟩
  rw [he, hX]
  exact ret_int (by rw [wrap64]; omega)
set_option maxHeartbeats 8000000 in
theorem specRectsAbut_any (a b c d p q r s : Int) (w : World) : Calls Tryd.prog 26 #[.agg #[.int .i64 a, .int .i64 b, .int .i64 c, .int .i64 d], .agg #[.int .i64 p, .int .i64 q, .int .i64 r, .int .i64 s]] w fun e w' => e = .returned (.bool (abB a b c d p q r s)) ∧ Below w.heap.size w w' := by
  unfold abB
  cases h1 : rvB a b c d with
  | false =>
    generalize hX : wrap64 (lo2 c r - hi2 a p) = X
    generalize hY : wrap64 (lo2 d s - hi2 b q) = Y
    go_enter Tryd.func26, Tryd.ntmps26
    go_wp2_with fail
    go_call (span_w) as e w1 ⟨rfl, bw1⟩
    obtain ⟨sw1, zw1, cw1, fw1⟩ := bcell bw1
    try simp only [World.size_alloc, World.size_setCell, World.size_drew] at sw1
    try have lw1_w_0 : w.heap.size < w1.heap.size := by omega
    try have lw1_w_1 : w.heap.size + 1 < w1.heap.size := by omega
    try have lw1_w_2 : w.heap.size + 1 + 1 < w1.heap.size := by omega
    try have lw1_w_3 : w.heap.size + 1 + 1 + 1 < w1.heap.size := by omega
    try have lw1_w_4 : w.heap.size + 1 + 1 + 1 + 1 < w1.heap.size := by omega
    try have lw1_w_5 : w.heap.size + 1 + 1 + 1 + 1 + 1 < w1.heap.size := by omega
    try have lw1_w_6 : w.heap.size + 1 + 1 + 1 + 1 + 1 + 1 < w1.heap.size := by omega
    go_wp2_with fail
    go_call (span_w) as e w2 ⟨rfl, bw2⟩
    obtain ⟨sw2, zw2, cw2, fw2⟩ := bcell bw2
    try simp only [World.size_alloc, World.size_setCell, World.size_drew] at sw2
    try have lw2_w_0 : w.heap.size < w2.heap.size := by omega
    try have lw2_w_1 : w.heap.size + 1 < w2.heap.size := by omega
    try have lw2_w_2 : w.heap.size + 1 + 1 < w2.heap.size := by omega
    try have lw2_w_3 : w.heap.size + 1 + 1 + 1 < w2.heap.size := by omega
    try have lw2_w_4 : w.heap.size + 1 + 1 + 1 + 1 < w2.heap.size := by omega
    try have lw2_w_5 : w.heap.size + 1 + 1 + 1 + 1 + 1 < w2.heap.size := by omega
    try have lw2_w_6 : w.heap.size + 1 + 1 + 1 + 1 + 1 + 1 < w2.heap.size := by omega
    try have lw2_w1_0 : w1.heap.size < w2.heap.size := by omega
    try have lw2_w1_1 : w1.heap.size + 1 < w2.heap.size := by omega
    try have lw2_w1_2 : w1.heap.size + 1 + 1 < w2.heap.size := by omega
    try have lw2_w1_3 : w1.heap.size + 1 + 1 + 1 < w2.heap.size := by omega
    try have lw2_w1_4 : w1.heap.size + 1 + 1 + 1 + 1 < w2.heap.size := by omega
    try have lw2_w1_5 : w1.heap.size + 1 + 1 + 1 + 1 + 1 < w2.heap.size := by omega
    try have lw2_w1_6 : w1.heap.size + 1 + 1 + 1 + 1 + 1 + 1 < w2.heap.size := by omega
    go_wp2_with fail
    go_call (specValidRect_any) as e w3 ⟨rfl, bw3⟩
    obtain ⟨sw3, zw3, cw3, fw3⟩ := bcell bw3
    try simp only [World.size_alloc, World.size_setCell, World.size_drew] at sw3
    try have lw3_w_0 : w.heap.size < w3.heap.size := by omega
    try have lw3_w_1 : w.heap.size + 1 < w3.heap.size := by omega
    try have lw3_w_2 : w.heap.size + 1 + 1 < w3.heap.size := by omega
    try have lw3_w_3 : w.heap.size + 1 + 1 + 1 < w3.heap.size := by omega
    try have lw3_w_4 : w.heap.size + 1 + 1 + 1 + 1 < w3.heap.size := by omega
    try have lw3_w_5 : w.heap.size + 1 + 1 + 1 + 1 + 1 < w3.heap.size := by omega
    try have lw3_w_6 : w.heap.size + 1 + 1 + 1 + 1 + 1 + 1 < w3.heap.size := by omega
    try have lw3_w1_0 : w1.heap.size < w3.heap.size := by omega
    try have lw3_w1_1 : w1.heap.size + 1 < w3.heap.size := by omega
    try have lw3_w1_2 : w1.heap.size + 1 + 1 < w3.heap.size := by omega
    try have lw3_w1_3 : w1.heap.size + 1 + 1 + 1 < w3.heap.size := by omega
    try have lw3_w1_4 : w1.heap.size + 1 + 1 + 1 + 1 < w3.heap.size := by omega
    try have lw3_w1_5 : w1.heap.size + 1 + 1 + 1 + 1 + 1 < w3.heap.size := by omega
    try have lw3_w1_6 : w1.heap.size + 1 + 1 + 1 + 1 + 1 + 1 < w3.heap.size := by omega
    try have lw3_w2_0 : w2.heap.size < w3.heap.size := by omega
    try have lw3_w2_1 : w2.heap.size + 1 < w3.heap.size := by omega
    try have lw3_w2_2 : w2.heap.size + 1 + 1 < w3.heap.size := by omega
    try have lw3_w2_3 : w2.heap.size + 1 + 1 + 1 < w3.heap.size := by omega
    try have lw3_w2_4 : w2.heap.size + 1 + 1 + 1 + 1 < w3.heap.size := by omega
    try have lw3_w2_5 : w2.heap.size + 1 + 1 + 1 + 1 + 1 < w3.heap.size := by omega
    try have lw3_w2_6 : w2.heap.size + 1 + 1 + 1 + 1 + 1 + 1 < w3.heap.size := by omega
    rw [h1]
    go_wp2_with fail
    go_ret
    exact ⟨rfl, by (repeat (first | (with_reducible exact Below.refl _ _) | (with_reducible refine Ext.drewN ?_ _) | (with_reducible refine Below.drew ?_) | (with_reducible refine Ext.alloc ?_ _) | (with_reducible refine Ext.setCell ?_ (by simp; try omega) _) | (with_reducible refine Ext.trans ?_ (by assumption)) | (with_reducible assumption) | exact Below.refl _ _))⟩
  | true =>
    cases h2 : rvB p q r s with
    | false =>
      go_enter Tryd.func26, Tryd.ntmps26
      go_wp2_with fail
      go_call (span_w) as e w1 ⟨rfl, bw1⟩
      obtain ⟨sw1, zw1, cw1, fw1⟩ := bcell bw1
      try simp only [World.size_alloc, World.size_setCell, World.size_drew] at sw1
      try have lw1_w_0 : w.heap.size < w1.heap.size := by omega
      try have lw1_w_1 : w.heap.size + 1 < w1.heap.size := by omega
      try have lw1_w_2 : w.heap.size + 1 + 1 < w1.heap.size := by omega
      try have lw1_w_3 : w.heap.size + 1 + 1 + 1 < w1.heap.size := by omega
      try have lw1_w_4 : w.heap.size + 1 + 1 + 1 + 1 < w1.heap.size := by omega
      try have lw1_w_5 : w.heap.size + 1 + 1 + 1 + 1 + 1 < w1.heap.size := by omega
      try have lw1_w_6 : w.heap.size + 1 + 1 + 1 + 1 + 1 + 1 < w1.heap.size := by omega
      go_wp2_with fail
      go_call (span_w) as e w2 ⟨rfl, bw2⟩
      obtain ⟨sw2, zw2, cw2, fw2⟩ := bcell bw2
      try simp only [World.size_alloc, World.size_setCell, World.size_drew] at sw2
      try have lw2_w_0 : w.heap.size < w2.heap.size := by omega
      try have lw2_w_1 : w.heap.size + 1 < w2.heap.size := by omega
      try have lw2_w_2 : w.heap.size + 1 + 1 < w2.heap.size := by omega
      try have lw2_w_3 : w.heap.size + 1 + 1 + 1 < w2.heap.size := by omega
      try have lw2_w_4 : w.heap.size + 1 + 1 + 1 + 1 < w2.heap.size := by omega
      try have lw2_w_5 : w.heap.size + 1 + 1 + 1 + 1 + 1 < w2.heap.size := by omega
      try have lw2_w_6 : w.heap.size + 1 + 1 + 1 + 1 + 1 + 1 < w2.heap.size := by omega
      try have lw2_w1_0 : w1.heap.size < w2.heap.size := by omega
      try have lw2_w1_1 : w1.heap.size + 1 < w2.heap.size := by omega
      try have lw2_w1_2 : w1.heap.size + 1 + 1 < w2.heap.size := by omega
      try have lw2_w1_3 : w1.heap.size + 1 + 1 + 1 < w2.heap.size := by omega
      try have lw2_w1_4 : w1.heap.size + 1 + 1 + 1 + 1 < w2.heap.size := by omega
      try have lw2_w1_5 : w1.heap.size + 1 + 1 + 1 + 1 + 1 < w2.heap.size := by omega
      try have lw2_w1_6 : w1.heap.size + 1 + 1 + 1 + 1 + 1 + 1 < w2.heap.size := by omega
      go_wp2_with fail
      go_call (specValidRect_any) as e w3 ⟨rfl, bw3⟩
      obtain ⟨sw3, zw3, cw3, fw3⟩ := bcell bw3
      try simp only [World.size_alloc, World.size_setCell, World.size_drew] at sw3
      try have lw3_w_0 : w.heap.size < w3.heap.size := by omega
      try have lw3_w_1 : w.heap.size + 1 < w3.heap.size := by omega
      try have lw3_w_2 : w.heap.size + 1 + 1 < w3.heap.size := by omega
      try have lw3_w_3 : w.heap.size + 1 + 1 + 1 < w3.heap.size := by omega
      try have lw3_w_4 : w.heap.size + 1 + 1 + 1 + 1 < w3.heap.size := by omega
      try have lw3_w_5 : w.heap.size + 1 + 1 + 1 + 1 + 1 < w3.heap.size := by omega
      try have lw3_w_6 : w.heap.size + 1 + 1 + 1 + 1 + 1 + 1 < w3.heap.size := by omega
      try have lw3_w1_0 : w1.heap.size < w3.heap.size := by omega
      try have lw3_w1_1 : w1.heap.size + 1 < w3.heap.size := by omega
      try have lw3_w1_2 : w1.heap.size + 1 + 1 < w3.heap.size := by omega
      try have lw3_w1_3 : w1.heap.size + 1 + 1 + 1 < w3.heap.size := by omega
      try have lw3_w1_4 : w1.heap.size + 1 + 1 + 1 + 1 < w3.heap.size := by omega
      try have lw3_w1_5 : w1.heap.size + 1 + 1 + 1 + 1 + 1 < w3.heap.size := by omega
      try have lw3_w1_6 : w1.heap.size + 1 + 1 + 1 + 1 + 1 + 1 < w3.heap.size := by omega
      try have lw3_w2_0 : w2.heap.size < w3.heap.size := by omega
      try have lw3_w2_1 : w2.heap.size + 1 < w3.heap.size := by omega
      try have lw3_w2_2 : w2.heap.size + 1 + 1 < w3.heap.size := by omega
      try have lw3_w2_3 : w2.heap.size + 1 + 1 + 1 < w3.heap.size := by omega
      try have lw3_w2_4 : w2.heap.size + 1 + 1 + 1 + 1 < w3.heap.size := by omega
      try have lw3_w2_5 : w2.heap.size + 1 + 1 + 1 + 1 + 1 < w3.heap.size := by omega
      try have lw3_w2_6 : w2.heap.size + 1 + 1 + 1 + 1 + 1 + 1 < w3.heap.size := by omega
      rw [h1]
      go_wp2_with fail
      go_call (specValidRect_any) as e w4 ⟨rfl, bw4⟩
      obtain ⟨sw4, zw4, cw4, fw4⟩ := bcell bw4
      try simp only [World.size_alloc, World.size_setCell, World.size_drew] at sw4
      try have lw4_w_0 : w.heap.size < w4.heap.size := by omega
      try have lw4_w_1 : w.heap.size + 1 < w4.heap.size := by omega
      try have lw4_w_2 : w.heap.size + 1 + 1 < w4.heap.size := by omega
      try have lw4_w_3 : w.heap.size + 1 + 1 + 1 < w4.heap.size := by omega
      try have lw4_w_4 : w.heap.size + 1 + 1 + 1 + 1 < w4.heap.size := by omega
      try have lw4_w_5 : w.heap.size + 1 + 1 + 1 + 1 + 1 < w4.heap.size := by omega
      try have lw4_w_6 : w.heap.size + 1 + 1 + 1 + 1 + 1 + 1 < w4.heap.size := by omega
      try have lw4_w1_0 : w1.heap.size < w4.heap.size := by omega
      try have lw4_w1_1 : w1.heap.size + 1 < w4.heap.size := by omega
      try have lw4_w1_2 : w1.heap.size + 1 + 1 < w4.heap.size := by omega
      try have lw4_w1_3 : w1.heap.size + 1 + 1 + 1 < w4.heap.size := by omega
      try have lw4_w1_4 : w1.heap.size + 1 + 1 + 1 + 1 < w4.heap.size := by omega
      try have lw4_w1_5 : w1.heap.size + 1 + 1 + 1 + 1 + 1 < w4.heap.size := by omega
      try have lw4_w1_6 : w1.heap.size + 1 + 1 + 1 + 1 + 1 + 1 < w4.heap.size := by omega
      try have lw4_w2_0 : w2.heap.size < w4.heap.size := by omega
      try have lw4_w2_1 : w2.heap.size + 1 < w4.heap.size := by omega
      try have lw4_w2_2 : w2.heap.size + 1 + 1 < w4.heap.size := by omega
      try have lw4_w2_3 : w2.heap.size + 1 + 1 + 1 < w4.heap.size := by omega
      try have lw4_w2_4 : w2.heap.size + 1 + 1 + 1 + 1 < w4.heap.size := by omega
      try have lw4_w2_5 : w2.heap.size + 1 + 1 + 1 + 1 + 1 < w4.heap.size := by omega
      try have lw4_w2_6 : w2.heap.size + 1 + 1 + 1 + 1 + 1 + 1 < w4.heap.size := by omega
      try have lw4_w3_0 : w3.heap.size < w4.heap.size := by omega
      try have lw4_w3_1 : w3.heap.size + 1 < w4.heap.size := by omega
      try have lw4_w3_2 : w3.heap.size + 1 + 1 < w4.heap.size := by omega
      try have lw4_w3_3 : w3.heap.size + 1 + 1 + 1 < w4.heap.size := by omega
      try have lw4_w3_4 : w3.heap.size + 1 + 1 + 1 + 1 < w4.heap.size := by omega
      try have lw4_w3_5 : w3.heap.size + 1 + 1 + 1 + 1 + 1 < w4.heap.size := by omega
      try have lw4_w3_6 : w3.heap.size + 1 + 1 + 1 + 1 + 1 + 1 < w4.heap.size := by omega
      rw [h2]
      go_wp2_with fail
      go_ret
      exact ⟨rfl, by (repeat (first | (with_reducible exact Below.refl _ _) | (with_reducible refine Ext.drewN ?_ _) | (with_reducible refine Below.drew ?_) | (with_reducible refine Ext.alloc ?_ _) | (with_reducible refine Ext.setCell ?_ (by simp; try omega) _) | (with_reducible refine Ext.trans ?_ (by assumption)) | (with_reducible assumption) | exact Below.refl _ _))⟩
    | true =>
      obtain ⟨i1, i2, i3, i4, i5, i6⟩ := rvB_t h1
      obtain ⟨j1, j2, j3, j4, j5, j6⟩ := rvB_t h2
      have k1 := hi2_bd a p
      have k2 := hi2_bd b q
      have k3 := lo2_bd c r
      have k4 := lo2_bd d s
      have x1 : -1000 ≤ lo2 c r - hi2 a p := by omega
      have x2 : lo2 c r - hi2 a p ≤ 1000 := by omega
      have y1 : -1000 ≤ lo2 d s - hi2 b q := by omega
      have y2 : lo2 d s - hi2 b q ≤ 1000 := by omega
      clear k1 k2 k3 k4
      unfold abP
      have key : (lo2 c r - hi2 a p = 0 ∧ 0 < lo2 d s - hi2 b q) ∨ (lo2 c r - hi2 a p = 0 ∧ ¬ 0 < lo2 d s - hi2 b q) ∨ (¬ lo2 c r - hi2 a p = 0 ∧ ¬ 0 < lo2 c r - hi2 a p) ∨ (¬ lo2 c r - hi2 a p = 0 ∧ 0 < lo2 c r - hi2 a p ∧ lo2 d s - hi2 b q = 0) ∨ (¬ lo2 c r - hi2 a p = 0 ∧ 0 < lo2 c r - hi2 a p ∧ ¬ lo2 d s - hi2 b q = 0) := by omega
      generalize hX : lo2 c r - hi2 a p = X at *
      generalize hY : lo2 d s - hi2 b q = Y at *
      clear i1 i2 i3 i4 i5 i6 j1 j2 j3 j4 j5 j6
      rcases key with ⟨g1, g2⟩ | ⟨g1, g2⟩ | ⟨g1, g2⟩ | ⟨g1, g2, g3⟩ | ⟨g1, g2, g3⟩
      all_goals
        go_enter Tryd.func26, Tryd.ntmps26
        go_wp2_with fail
        go_call (span_is a c p r X _ hX x1 x2) as e w1 ⟨rfl, bw1⟩
        obtain ⟨sw1, zw1, cw1, fw1⟩ := bcell bw1
        try simp only [World.size_alloc, World.size_setCell, World.size_drew] at sw1
        try have lw1_w_0 : w.heap.size < w1.heap.size := by omega
        try have lw1_w_1 : w.heap.size + 1 < w1.heap.size := by omega
        try have lw1_w_2 : w.heap.size + 1 + 1 < w1.heap.size := by omega
        try have lw1_w_3 : w.heap.size + 1 + 1 + 1 < w1.heap.size := by omega
        try have lw1_w_4 : w.heap.size + 1 + 1 + 1 + 1 < w1.heap.size := by omega
        try have lw1_w_5 : w.heap.size + 1 + 1 + 1 + 1 + 1 < w1.heap.size := by omega
        try have lw1_w_6 : w.heap.size + 1 + 1 + 1 + 1 + 1 + 1 < w1.heap.size := by omega
        go_wp2_with fail
        go_call (span_is b d q s Y _ hY y1 y2) as e w2 ⟨rfl, bw2⟩
        obtain ⟨sw2, zw2, cw2, fw2⟩ := bcell bw2
        try simp only [World.size_alloc, World.size_setCell, World.size_drew] at sw2
        try have lw2_w_0 : w.heap.size < w2.heap.size := by omega
        try have lw2_w_1 : w.heap.size + 1 < w2.heap.size := by omega
        try have lw2_w_2 : w.heap.size + 1 + 1 < w2.heap.size := by omega
        try have lw2_w_3 : w.heap.size + 1 + 1 + 1 < w2.heap.size := by omega
        try have lw2_w_4 : w.heap.size + 1 + 1 + 1 + 1 < w2.heap.size := by omega
        try have lw2_w_5 : w.heap.size + 1 + 1 + 1 + 1 + 1 < w2.heap.size := by omega
        try have lw2_w_6 : w.heap.size + 1 + 1 + 1 + 1 + 1 + 1 < w2.heap.size := by omega
        try have lw2_w1_0 : w1.heap.size < w2.heap.size := by omega
        try have lw2_w1_1 : w1.heap.size + 1 < w2.heap.size := by omega
        try have lw2_w1_2 : w1.heap.size + 1 + 1 < w2.heap.size := by omega
        try have lw2_w1_3 : w1.heap.size + 1 + 1 + 1 < w2.heap.size := by omega
        try have lw2_w1_4 : w1.heap.size + 1 + 1 + 1 + 1 < w2.heap.size := by omega
        try have lw2_w1_5 : w1.heap.size + 1 + 1 + 1 + 1 + 1 < w2.heap.size := by omega
        try have lw2_w1_6 : w1.heap.size + 1 + 1 + 1 + 1 + 1 + 1 < w2.heap.size := by omega
        go_wp2_with fail
        go_call (specValidRect_any) as e w3 ⟨rfl, bw3⟩
        obtain ⟨sw3, zw3, cw3, fw3⟩ := bcell bw3
        try simp only [World.size_alloc, World.size_setCell, World.size_drew] at sw3
        try have lw3_w_0 : w.heap.size < w3.heap.size := by omega
        try have lw3_w_1 : w.heap.size + 1 < w3.heap.size := by omega
        try have lw3_w_2 : w.heap.size + 1 + 1 < w3.heap.size := by omega
        try have lw3_w_3 : w.heap.size + 1 + 1 + 1 < w3.heap.size := by omega
        try have lw3_w_4 : w.heap.size + 1 + 1 + 1 + 1 < w3.heap.size := by omega
        try have lw3_w_5 : w.heap.size + 1 + 1 + 1 + 1 + 1 < w3.heap.size := by omega
        try have lw3_w_6 : w.heap.size + 1 + 1 + 1 + 1 + 1 + 1 < w3.heap.size := by omega
        try have lw3_w1_0 : w1.heap.size < w3.heap.size := by omega
        try have lw3_w1_1 : w1.heap.size + 1 < w3.heap.size := by omega
        try have lw3_w1_2 : w1.heap.size + 1 + 1 < w3.heap.size := by omega
        try have lw3_w1_3 : w1.heap.size + 1 + 1 + 1 < w3.heap.size := by omega
        try have lw3_w1_4 : w1.heap.size + 1 + 1 + 1 + 1 < w3.heap.size := by omega
        try have lw3_w1_5 : w1.heap.size + 1 + 1 + 1 + 1 + 1 < w3.heap.size := by omega
        try have lw3_w1_6 : w1.heap.size + 1 + 1 + 1 + 1 + 1 + 1 < w3.heap.size := by omega
        try have lw3_w2_0 : w2.heap.size < w3.heap.size := by omega
        try have lw3_w2_1 : w2.heap.size + 1 < w3.heap.size := by omega
        try have lw3_w2_2 : w2.heap.size + 1 + 1 < w3.heap.size := by omega
        try have lw3_w2_3 : w2.heap.size + 1 + 1 + 1 < w3.heap.size := by omega
        try have lw3_w2_4 : w2.heap.size + 1 + 1 + 1 + 1 < w3.heap.size := by omega
        try have lw3_w2_5 : w2.heap.size + 1 + 1 + 1 + 1 + 1 < w3.heap.size := by omega
        try have lw3_w2_6 : w2.heap.size + 1 + 1 + 1 + 1 + 1 + 1 < w3.heap.size := by omega
        rw [h1]
        go_wp2_with fail
        go_call (specValidRect_any) as e w4 ⟨rfl, bw4⟩
        obtain ⟨sw4, zw4, cw4, fw4⟩ := bcell bw4
        try simp only [World.size_alloc, World.size_setCell, World.size_drew] at sw4
        try have lw4_w_0 : w.heap.size < w4.heap.size := by omega
        try have lw4_w_1 : w.heap.size + 1 < w4.heap.size := by omega
        try have lw4_w_2 : w.heap.size + 1 + 1 < w4.heap.size := by omega
        try have lw4_w_3 : w.heap.size + 1 + 1 + 1 < w4.heap.size := by omega
        try have lw4_w_4 : w.heap.size + 1 + 1 + 1 + 1 < w4.heap.size := by omega
        try have lw4_w_5 : w.heap.size + 1 + 1 + 1 + 1 + 1 < w4.heap.size := by omega
        try have lw4_w_6 : w.heap.size + 1 + 1 + 1 + 1 + 1 + 1 < w4.heap.size := by omega
        try have lw4_w1_0 : w1.heap.size < w4.heap.size := by omega
        try have lw4_w1_1 : w1.heap.size + 1 < w4.heap.size := by omega
        try have lw4_w1_2 : w1.heap.size + 1 + 1 < w4.heap.size := by omega
        try have lw4_w1_3 : w1.heap.size + 1 + 1 + 1 < w4.heap.size := by omega
        try have lw4_w1_4 : w1.heap.size + 1 + 1 + 1 + 1 < w4.heap.size := by omega
        try have lw4_w1_5 : w1.heap.size + 1 + 1 + 1 + 1 + 1 < w4.heap.size := by omega
        try have lw4_w1_6 : w1.heap.size + 1 + 1 + 1 + 1 + 1 + 1 < w4.heap.size := by omega
        try have lw4_w2_0 : w2.heap.size < w4.heap.size := by omega
        try have lw4_w2_1 : w2.heap.size + 1 < w4.heap.size := by omega
        try have lw4_w2_2 : w2.heap.size + 1 + 1 < w4.heap.size := by omega
        try have lw4_w2_3 : w2.heap.size + 1 + 1 + 1 < w4.heap.size := by omega
        try have lw4_w2_4 : w2.heap.size + 1 + 1 + 1 + 1 < w4.heap.size := by omega
        try have lw4_w2_5 : w2.heap.size + 1 + 1 + 1 + 1 + 1 < w4.heap.size := by omega
        try have lw4_w2_6 : w2.heap.size + 1 + 1 + 1 + 1 + 1 + 1 < w4.heap.size := by omega
        try have lw4_w3_0 : w3.heap.size < w4.heap.size := by omega
        try have lw4_w3_1 : w3.heap.size + 1 < w4.heap.size := by omega
        try have lw4_w3_2 : w3.heap.size + 1 + 1 < w4.heap.size := by omega
        try have lw4_w3_3 : w3.heap.size + 1 + 1 + 1 < w4.heap.size := by omega
        try have lw4_w3_4 : w3.heap.size + 1 + 1 + 1 + 1 < w4.heap.size := by omega
        try have lw4_w3_5 : w3.heap.size + 1 + 1 + 1 + 1 + 1 < w4.heap.size := by omega
        try have lw4_w3_6 : w3.heap.size + 1 + 1 + 1 + 1 + 1 + 1 < w4.heap.size := by omega
        rw [h2]
        go_wp2_with fail
        go_ret
        exact ⟨ret_bool (by (rw [Bool.eq_iff_iff]; (try simp only [Bool.and_eq_true, Bool.or_eq_true, Bool.not_eq_true, decide_eq_true_eq, beq_iff_eq, beq_eq_false_iff_ne, ne_eq, decide_eq_false_iff_not, Bool.true_and, Bool.and_true, Bool.false_eq_true, true_and, and_true, false_iff, iff_false, true_iff, iff_true, false_and, and_false]); (try omega))), by (repeat (first | (with_reducible exact Below.refl _ _) | (with_reducible refine Ext.drewN ?_ _) | (with_reducible refine Below.drew ?_) | (with_reducible refine Ext.alloc ?_ _) | (with_reducible refine Ext.setCell ?_ (by simp; try omega) _) | (with_reducible refine Ext.trans ?_ (by assumption)) | (with_reducible assumption) | exact Below.refl _ _))⟩

theorem width_is (a b c d X : Int) (w : World) (hX : c - a = X) (h1 : -1000 ≤ X) (h2 : X ≤ 1000) : Calls Tryd.prog 68 #[.agg #[.int .i64 a, .int .i64 b, .int .i64 c, .int .i64 d]] w fun e w' => e = .returned (.int .i64 X) ∧ Below w.heap.size w w' := by
  subst hX
  go_enter Tryd.func68, Tryd.ntmps68
  go_wp2_with fail
  go_ret
  exact ⟨ret_int rfl, by (repeat (first | (with_reducible exact Below.refl _ _) | (with_reducible refine Ext.drewN ?_ _) | (with_reducible refine Below.drew ?_) | (with_reducible refine Ext.alloc ?_ _) | (with_reducible refine Ext.setCell ?_ (by simp; try omega) _) | (with_reducible refine Ext.trans ?_ (by assumption)) | (with_reducible assumption) | exact Below.refl _ _))⟩
theorem height_is (a b c d X : Int) (w : World) (hX : d - b = X) (h1 : -1000 ≤ X) (h2 : X ≤ 1000) : Calls Tryd.prog 69 #[.agg #[.int .i64 a, .int .i64 b, .int .i64 c, .int .i64 d]] w fun e w' => e = .returned (.int .i64 X) ∧ Below w.heap.size w w' := by
  subst hX
  go_enter Tryd.func69, Tryd.ntmps69
  go_wp2_with fail
  go_ret
  exact ⟨ret_int rfl, by (repeat (first | (with_reducible exact Below.refl _ _) | (with_reducible refine Ext.drewN ?_ _) | (with_reducible refine Below.drew ?_) | (with_reducible refine Ext.alloc ?_ _) | (with_reducible refine Ext.setCell ?_ (by simp; try omega) _) | (with_reducible refine Ext.trans ?_ (by assumption)) | (with_reducible assumption) | exact Below.refl _ _))⟩

set_option maxHeartbeats 8000000 in
theorem implRectsAbut_any (a b c d p q r s : Int) (w : World) (hC : ChipW w) : Calls Tryd.prog 27 #[.agg #[.int .i64 a, .int .i64 b, .int .i64 c, .int .i64 d], .agg #[.int .i64 p, .int .i64 q, .int .i64 r, .int .i64 s]] w fun e w' => e = .returned (.bool (abB a b c d p q r s)) ∧ Below w.heap.size w w' := by
  unfold abB
  rw [← Bool.and_assoc]
  cases hv : (rvB a b c d && rvB p q r s) with
  | false =>
    go_enter Tryd.func27, Tryd.ntmps27
    go_wp2_with fail
    go_call (areValid2_any a b c d p q r s false _ _ _ (hC.ext (by (repeat (first | (with_reducible exact Below.refl _ _) | (with_reducible refine Ext.drewN ?_ _) | (with_reducible refine Below.drew ?_) | (with_reducible refine Ext.alloc ?_ _) | (with_reducible refine Ext.setCell ?_ (by simp; try omega) _) | (with_reducible refine Ext.trans ?_ (by assumption)) | (with_reducible assumption) | exact Below.refl _ _)))) hv (rects2 (by simp [go_sem]) (by simp [go_sem]) (by simp [go_sem]) (by simp [go_sem]) (by simp [go_sem]) (by simp [go_sem]) (by simp [go_sem]) (by simp [go_sem]))) as e w1 ⟨rfl, bw1⟩
    obtain ⟨sw1, zw1, cw1, fw1⟩ := bcell bw1
    try simp only [World.size_alloc, World.size_setCell, World.size_drew] at sw1
    try have lw1_w_0 : w.heap.size < w1.heap.size := by omega
    try have lw1_w_1 : w.heap.size + 1 < w1.heap.size := by omega
    try have lw1_w_2 : w.heap.size + 1 + 1 < w1.heap.size := by omega
    try have lw1_w_3 : w.heap.size + 1 + 1 + 1 < w1.heap.size := by omega
    try have lw1_w_4 : w.heap.size + 1 + 1 + 1 + 1 < w1.heap.size := by omega
    try have lw1_w_5 : w.heap.size + 1 + 1 + 1 + 1 + 1 < w1.heap.size := by omega
    try have lw1_w_6 : w.heap.size + 1 + 1 + 1 + 1 + 1 + 1 < w1.heap.size := by omega
    go_wp2_with fail
    go_ret
    exact ⟨rfl, by (repeat (first | (with_reducible exact Below.refl _ _) | (with_reducible refine Ext.drewN ?_ _) | (with_reducible refine Below.drew ?_) | (with_reducible refine Ext.alloc ?_ _) | (with_reducible refine Ext.setCell ?_ (by simp; try omega) _) | (with_reducible refine Ext.trans ?_ (by assumption)) | (with_reducible assumption) | exact Below.refl _ _))⟩
  | true =>
    have hv' := hv
    rw [Bool.and_eq_true] at hv'
    obtain ⟨h1, h2⟩ := hv'
    obtain ⟨i1, i2, i3, i4, i5, i6⟩ := rvB_t h1
    obtain ⟨j1, j2, j3, j4, j5, j6⟩ := rvB_t h2
    have k1 := hi2_bd a p
    have k2 := hi2_bd b q
    have k3 := lo2_bd c r
    have k4 := lo2_bd d s
    have x1 : -1000 ≤ lo2 c r - hi2 a p := by omega
    have x2 : lo2 c r - hi2 a p ≤ 1000 := by omega
    have y1 : -1000 ≤ lo2 d s - hi2 b q := by omega
    have y2 : lo2 d s - hi2 b q ≤ 1000 := by omega
    clear k1 k2 k3 k4
    unfold abP
    have key : (lo2 c r - hi2 a p = 0 ∧ 0 < lo2 d s - hi2 b q) ∨ (lo2 c r - hi2 a p = 0 ∧ ¬ 0 < lo2 d s - hi2 b q ∧ lo2 d s - hi2 b q = 0) ∨ (lo2 c r - hi2 a p = 0 ∧ ¬ 0 < lo2 d s - hi2 b q ∧ ¬ lo2 d s - hi2 b q = 0) ∨ (¬ lo2 c r - hi2 a p = 0 ∧ ¬ 0 < lo2 c r - hi2 a p ∧ lo2 d s - hi2 b q = 0) ∨ (¬ lo2 c r - hi2 a p = 0 ∧ ¬ 0 < lo2 c r - hi2 a p ∧ ¬ lo2 d s - hi2 b q = 0) ∨ (¬ lo2 c r - hi2 a p = 0 ∧ 0 < lo2 c r - hi2 a p ∧ lo2 d s - hi2 b q = 0) ∨ (¬ lo2 c r - hi2 a p = 0 ∧ 0 < lo2 c r - hi2 a p ∧ ¬ lo2 d s - hi2 b q = 0) := by omega
    generalize hX : lo2 c r - hi2 a p = X at *
    generalize hY : lo2 d s - hi2 b q = Y at *
    clear i1 i2 i3 i4 i5 i6 j1 j2 j3 j4 j5 j6
    rcases key with ⟨g1, g2⟩ | ⟨g1, g2, g3⟩ | ⟨g1, g2, g3⟩ | ⟨g1, g2, g3⟩ | ⟨g1, g2, g3⟩ | ⟨g1, g2, g3⟩ | ⟨g1, g2, g3⟩
    · skip
      go_enter Tryd.func27, Tryd.ntmps27
      go_wp2_with fail
      go_call (areValid2_any a b c d p q r s true _ _ _ (hC.ext (by (repeat (first | (with_reducible exact Below.refl _ _) | (with_reducible refine Ext.drewN ?_ _) | (with_reducible refine Below.drew ?_) | (with_reducible refine Ext.alloc ?_ _) | (with_reducible refine Ext.setCell ?_ (by simp; try omega) _) | (with_reducible refine Ext.trans ?_ (by assumption)) | (with_reducible assumption) | exact Below.refl _ _)))) hv (rects2 (by simp [go_sem]) (by simp [go_sem]) (by simp [go_sem]) (by simp [go_sem]) (by simp [go_sem]) (by simp [go_sem]) (by simp [go_sem]) (by simp [go_sem]))) as e w1 ⟨rfl, bw1⟩
      obtain ⟨sw1, zw1, cw1, fw1⟩ := bcell bw1
      try simp only [World.size_alloc, World.size_setCell, World.size_drew] at sw1
      try have lw1_w_0 : w.heap.size < w1.heap.size := by omega
      try have lw1_w_1 : w.heap.size + 1 < w1.heap.size := by omega
      try have lw1_w_2 : w.heap.size + 1 + 1 < w1.heap.size := by omega
      try have lw1_w_3 : w.heap.size + 1 + 1 + 1 < w1.heap.size := by omega
      try have lw1_w_4 : w.heap.size + 1 + 1 + 1 + 1 < w1.heap.size := by omega
      try have lw1_w_5 : w.heap.size + 1 + 1 + 1 + 1 + 1 < w1.heap.size := by omega
      try have lw1_w_6 : w.heap.size + 1 + 1 + 1 + 1 + 1 + 1 < w1.heap.size := by omega
      go_wp2_with fail
      go_call (meet_any a b c d p q r s) as e w2 ⟨rfl, bw2⟩
      obtain ⟨sw2, zw2, cw2, fw2⟩ := bcell bw2
      try simp only [World.size_alloc, World.size_setCell, World.size_drew] at sw2
      try have lw2_w_0 : w.heap.size < w2.heap.size := by omega
      try have lw2_w_1 : w.heap.size + 1 < w2.heap.size := by omega
      try have lw2_w_2 : w.heap.size + 1 + 1 < w2.heap.size := by omega
      try have lw2_w_3 : w.heap.size + 1 + 1 + 1 < w2.heap.size := by omega
      try have lw2_w_4 : w.heap.size + 1 + 1 + 1 + 1 < w2.heap.size := by omega
      try have lw2_w_5 : w.heap.size + 1 + 1 + 1 + 1 + 1 < w2.heap.size := by omega
      try have lw2_w_6 : w.heap.size + 1 + 1 + 1 + 1 + 1 + 1 < w2.heap.size := by omega
      try have lw2_w1_0 : w1.heap.size < w2.heap.size := by omega
      try have lw2_w1_1 : w1.heap.size + 1 < w2.heap.size := by omega
      try have lw2_w1_2 : w1.heap.size + 1 + 1 < w2.heap.size := by omega
      try have lw2_w1_3 : w1.heap.size + 1 + 1 + 1 < w2.heap.size := by omega
      try have lw2_w1_4 : w1.heap.size + 1 + 1 + 1 + 1 < w2.heap.size := by omega
      try have lw2_w1_5 : w1.heap.size + 1 + 1 + 1 + 1 + 1 < w2.heap.size := by omega
      try have lw2_w1_6 : w1.heap.size + 1 + 1 + 1 + 1 + 1 + 1 < w2.heap.size := by omega
      go_wp2_with fail
      go_call (width_is (hi2 a p) (hi2 b q) (lo2 c r) (lo2 d s) X _ hX x1 x2) as e w3 ⟨rfl, bw3⟩
      obtain ⟨sw3, zw3, cw3, fw3⟩ := bcell bw3
      try simp only [World.size_alloc, World.size_setCell, World.size_drew] at sw3
      try have lw3_w_0 : w.heap.size < w3.heap.size := by omega
      try have lw3_w_1 : w.heap.size + 1 < w3.heap.size := by omega
      try have lw3_w_2 : w.heap.size + 1 + 1 < w3.heap.size := by omega
      try have lw3_w_3 : w.heap.size + 1 + 1 + 1 < w3.heap.size := by omega
      try have lw3_w_4 : w.heap.size + 1 + 1 + 1 + 1 < w3.heap.size := by omega
      try have lw3_w_5 : w.heap.size + 1 + 1 + 1 + 1 + 1 < w3.heap.size := by omega
      try have lw3_w_6 : w.heap.size + 1 + 1 + 1 + 1 + 1 + 1 < w3.heap.size := by omega
      try have lw3_w1_0 : w1.heap.size < w3.heap.size := by omega
      try have lw3_w1_1 : w1.heap.size + 1 < w3.heap.size := by omega
      try have lw3_w1_2 : w1.heap.size + 1 + 1 < w3.heap.size := by omega
      try have lw3_w1_3 : w1.heap.size + 1 + 1 + 1 < w3.heap.size := by omega
      try have lw3_w1_4 : w1.heap.size + 1 + 1 + 1 + 1 < w3.heap.size := by omega
      try have lw3_w1_5 : w1.heap.size + 1 + 1 + 1 + 1 + 1 < w3.heap.size := by omega
      try have lw3_w1_6 : w1.heap.size + 1 + 1 + 1 + 1 + 1 + 1 < w3.heap.size := by omega
      try have lw3_w2_0 : w2.heap.size < w3.heap.size := by omega
      try have lw3_w2_1 : w2.heap.size + 1 < w3.heap.size := by omega
      try have lw3_w2_2 : w2.heap.size + 1 + 1 < w3.heap.size := by omega
      try have lw3_w2_3 : w2.heap.size + 1 + 1 + 1 < w3.heap.size := by omega
      try have lw3_w2_4 : w2.heap.size + 1 + 1 + 1 + 1 < w3.heap.size := by omega
      try have lw3_w2_5 : w2.heap.size + 1 + 1 + 1 + 1 + 1 < w3.heap.size := by omega
      try have lw3_w2_6 : w2.heap.size + 1 + 1 + 1 + 1 + 1 + 1 < w3.heap.size := by omega
      go_wp2_with fail
      go_call (height_is (hi2 a p) (hi2 b q) (lo2 c r) (lo2 d s) Y _ hY y1 y2) as e w4 ⟨rfl, bw4⟩
      obtain ⟨sw4, zw4, cw4, fw4⟩ := bcell bw4
      try simp only [World.size_alloc, World.size_setCell, World.size_drew] at sw4
      try have lw4_w_0 : w.heap.size < w4.heap.size := by omega
      try have lw4_w_1 : w.heap.size + 1 < w4.heap.size := by omega
      try have lw4_w_2 : w.heap.size + 1 + 1 < w4.heap.size := by omega
      try have lw4_w_3 : w.heap.size + 1 + 1 + 1 < w4.heap.size := by omega
      try have lw4_w_4 : w.heap.size + 1 + 1 + 1 + 1 < w4.heap.size := by omega
      try have lw4_w_5 : w.heap.size + 1 + 1 + 1 + 1 + 1 < w4.heap.size := by omega
      try have lw4_w_6 : w.heap.size + 1 + 1 + 1 + 1 + 1 + 1 < w4.heap.size := by omega
      try have lw4_w1_0 : w1.heap.size < w4.heap.size := by omega
      try have lw4_w1_1 : w1.heap.size + 1 < w4.heap.size := by omega
      try have lw4_w1_2 : w1.heap.size + 1 + 1 < w4.heap.size := by omega
      try have lw4_w1_3 : w1.heap.size + 1 + 1 + 1 < w4.heap.size := by omega
      try have lw4_w1_4 : w1.heap.size + 1 + 1 + 1 + 1 < w4.heap.size := by omega
      try have lw4_w1_5 : w1.heap.size + 1 + 1 + 1 + 1 + 1 < w4.heap.size := by omega
      try have lw4_w1_6 : w1.heap.size + 1 + 1 + 1 + 1 + 1 + 1 < w4.heap.size := by omega
      try have lw4_w2_0 : w2.heap.size < w4.heap.size := by omega
      try have lw4_w2_1 : w2.heap.size + 1 < w4.heap.size := by omega
      try have lw4_w2_2 : w2.heap.size + 1 + 1 < w4.heap.size := by omega
      try have lw4_w2_3 : w2.heap.size + 1 + 1 + 1 < w4.heap.size := by omega
      try have lw4_w2_4 : w2.heap.size + 1 + 1 + 1 + 1 < w4.heap.size := by omega
      try have lw4_w2_5 : w2.heap.size + 1 + 1 + 1 + 1 + 1 < w4.heap.size := by omega
      try have lw4_w2_6 : w2.heap.size + 1 + 1 + 1 + 1 + 1 + 1 < w4.heap.size := by omega
      try have lw4_w3_0 : w3.heap.size < w4.heap.size := by omega
      try have lw4_w3_1 : w3.heap.size + 1 < w4.heap.size := by omega
      try have lw4_w3_2 : w3.heap.size + 1 + 1 < w4.heap.size := by omega
      try have lw4_w3_3 : w3.heap.size + 1 + 1 + 1 < w4.heap.size := by omega
      try have lw4_w3_4 : w3.heap.size + 1 + 1 + 1 + 1 < w4.heap.size := by omega
      try have lw4_w3_5 : w3.heap.size + 1 + 1 + 1 + 1 + 1 < w4.heap.size := by omega
      try have lw4_w3_6 : w3.heap.size + 1 + 1 + 1 + 1 + 1 + 1 < w4.heap.size := by omega
      go_wp2_with fail
      go_ret
      exact ⟨ret_bool (by (rw [Bool.eq_iff_iff]; (try simp only [Bool.and_eq_true, Bool.or_eq_true, Bool.not_eq_true, decide_eq_true_eq, beq_iff_eq, beq_eq_false_iff_ne, ne_eq, decide_eq_false_iff_not, Bool.true_and, Bool.and_true, Bool.false_eq_true, true_and, and_true, false_iff, iff_false, true_iff, iff_true, false_and, and_false]); (try omega))), by (repeat (first | (with_reducible exact Below.refl _ _) | (with_reducible refine Ext.drewN ?_ _) | (with_reducible refine Below.drew ?_) | (with_reducible refine Ext.alloc ?_ _) | (with_reducible refine Ext.setCell ?_ (by simp; try omega) _) | (with_reducible refine Ext.trans ?_ (by assumption)) | (with_reducible assumption) | exact Below.refl _ _))⟩
    · skip
      go_enter Tryd.func27, Tryd.ntmps27
      go_wp2_with fail
      go_call (areValid2_any a b c d p q r s true _ _ _ (hC.ext (by (repeat (first | (with_reducible exact Below.refl _ _) | (with_reducible refine Ext.drewN ?_ _) | (with_reducible refine Below.drew ?_) | (with_reducible refine Ext.alloc ?_ _) | (with_reducible refine Ext.setCell ?_ (by simp; try omega) _) | (with_reducible refine Ext.trans ?_ (by assumption)) | (with_reducible assumption) | exact Below.refl _ _)))) hv (rects2 (by simp [go_sem]) (by simp [go_sem]) (by simp [go_sem]) (by simp [go_sem]) (by simp [go_sem]) (by simp [go_sem]) (by simp [go_sem]) (by simp [go_sem]))) as e w1 ⟨rfl, bw1⟩
      obtain ⟨sw1, zw1, cw1, fw1⟩ := bcell bw1
      try simp only [World.size_alloc, World.size_setCell, World.size_drew] at sw1
      try have lw1_w_0 : w.heap.size < w1.heap.size := by omega
      try have lw1_w_1 : w.heap.size + 1 < w1.heap.size := by omega
      try have lw1_w_2 : w.heap.size + 1 + 1 < w1.heap.size := by omega
      try have lw1_w_3 : w.heap.size + 1 + 1 + 1 < w1.heap.size := by omega
      try have lw1_w_4 : w.heap.size + 1 + 1 + 1 + 1 < w1.heap.size := by omega
      try have lw1_w_5 : w.heap.size + 1 + 1 + 1 + 1 + 1 < w1.heap.size := by omega
      try have lw1_w_6 : w.heap.size + 1 + 1 + 1 + 1 + 1 + 1 < w1.heap.size := by omega
      go_wp2_with fail
      go_call (meet_any a b c d p q r s) as e w2 ⟨rfl, bw2⟩
      obtain ⟨sw2, zw2, cw2, fw2⟩ := bcell bw2
      try simp only [World.size_alloc, World.size_setCell, World.size_drew] at sw2
      try have lw2_w_0 : w.heap.size < w2.heap.size := by omega
      try have lw2_w_1 : w.heap.size + 1 < w2.heap.size := by omega
      try have lw2_w_2 : w.heap.size + 1 + 1 < w2.heap.size := by omega
      try have lw2_w_3 : w.heap.size + 1 + 1 + 1 < w2.heap.size := by omega
      try have lw2_w_4 : w.heap.size + 1 + 1 + 1 + 1 < w2.heap.size := by omega
      try have lw2_w_5 : w.heap.size + 1 + 1 + 1 + 1 + 1 < w2.heap.size := by omega
      try have lw2_w_6 : w.heap.size + 1 + 1 + 1 + 1 + 1 + 1 < w2.heap.size := by omega
      try have lw2_w1_0 : w1.heap.size < w2.heap.size := by omega
      try have lw2_w1_1 : w1.heap.size + 1 < w2.heap.size := by omega
      try have lw2_w1_2 : w1.heap.size + 1 + 1 < w2.heap.size := by omega
      try have lw2_w1_3 : w1.heap.size + 1 + 1 + 1 < w2.heap.size := by omega
      try have lw2_w1_4 : w1.heap.size + 1 + 1 + 1 + 1 < w2.heap.size := by omega
      try have lw2_w1_5 : w1.heap.size + 1 + 1 + 1 + 1 + 1 < w2.heap.size := by omega
      try have lw2_w1_6 : w1.heap.size + 1 + 1 + 1 + 1 + 1 + 1 < w2.heap.size := by omega
      go_wp2_with fail
      go_call (width_is (hi2 a p) (hi2 b q) (lo2 c r) (lo2 d s) X _ hX x1 x2) as e w3 ⟨rfl, bw3⟩
      obtain ⟨sw3, zw3, cw3, fw3⟩ := bcell bw3
      try simp only [World.size_alloc, World.size_setCell, World.size_drew] at sw3
      try have lw3_w_0 : w.heap.size < w3.heap.size := by omega
      try have lw3_w_1 : w.heap.size + 1 < w3.heap.size := by omega
      try have lw3_w_2 : w.heap.size + 1 + 1 < w3.heap.size := by omega
      try have lw3_w_3 : w.heap.size + 1 + 1 + 1 < w3.heap.size := by omega
      try have lw3_w_4 : w.heap.size + 1 + 1 + 1 + 1 < w3.heap.size := by omega
      try have lw3_w_5 : w.heap.size + 1 + 1 + 1 + 1 + 1 < w3.heap.size := by omega
      try have lw3_w_6 : w.heap.size + 1 + 1 + 1 + 1 + 1 + 1 < w3.heap.size := by omega
      try have lw3_w1_0 : w1.heap.size < w3.heap.size := by omega
      try have lw3_w1_1 : w1.heap.size + 1 < w3.heap.size := by omega
      try have lw3_w1_2 : w1.heap.size + 1 + 1 < w3.heap.size := by omega
      try have lw3_w1_3 : w1.heap.size + 1 + 1 + 1 < w3.heap.size := by omega
      try have lw3_w1_4 : w1.heap.size + 1 + 1 + 1 + 1 < w3.heap.size := by omega
      try have lw3_w1_5 : w1.heap.size + 1 + 1 + 1 + 1 + 1 < w3.heap.size := by omega
      try have lw3_w1_6 : w1.heap.size + 1 + 1 + 1 + 1 + 1 + 1 < w3.heap.size := by omega
      try have lw3_w2_0 : w2.heap.size < w3.heap.size := by omega
      try have lw3_w2_1 : w2.heap.size + 1 < w3.heap.size := by omega
      try have lw3_w2_2 : w2.heap.size + 1 + 1 < w3.heap.size := by omega
      try have lw3_w2_3 : w2.heap.size + 1 + 1 + 1 < w3.heap.size := by omega
      try have lw3_w2_4 : w2.heap.size + 1 + 1 + 1 + 1 < w3.heap.size := by omega
      try have lw3_w2_5 : w2.heap.size + 1 + 1 + 1 + 1 + 1 < w3.heap.size := by omega
      try have lw3_w2_6 : w2.heap.size + 1 + 1 + 1 + 1 + 1 + 1 < w3.heap.size := by omega
      go_wp2_with fail
      go_call (height_is (hi2 a p) (hi2 b q) (lo2 c r) (lo2 d s) Y _ hY y1 y2) as e w4 ⟨rfl, bw4⟩
      obtain ⟨sw4, zw4, cw4, fw4⟩ := bcell bw4
      try simp only [World.size_alloc, World.size_setCell, World.size_drew] at sw4
      try have lw4_w_0 : w.heap.size < w4.heap.size := by omega
      try have lw4_w_1 : w.heap.size + 1 < w4.heap.size := by omega
      try have lw4_w_2 : w.heap.size + 1 + 1 < w4.heap.size := by omega
      try have lw4_w_3 : w.heap.size + 1 + 1 + 1 < w4.heap.size := by omega
      try have lw4_w_4 : w.heap.size + 1 + 1 + 1 + 1 < w4.heap.size := by omega
      try have lw4_w_5 : w.heap.size + 1 + 1 + 1 + 1 + 1 < w4.heap.size := by omega
      try have lw4_w_6 : w.heap.size + 1 + 1 + 1 + 1 + 1 + 1 < w4.heap.size := by omega
      try have lw4_w1_0 : w1.heap.size < w4.heap.size := by omega
      try have lw4_w1_1 : w1.heap.size + 1 < w4.heap.size := by omega
      try have lw4_w1_2 : w1.heap.size + 1 + 1 < w4.heap.size := by omega
      try have lw4_w1_3 : w1.heap.size + 1 + 1 + 1 < w4.heap.size := by omega
      try have lw4_w1_4 : w1.heap.size + 1 + 1 + 1 + 1 < w4.heap.size := by omega
      try have lw4_w1_5 : w1.heap.size + 1 + 1 + 1 + 1 + 1 < w4.heap.size := by omega
      try have lw4_w1_6 : w1.heap.size + 1 + 1 + 1 + 1 + 1 + 1 < w4.heap.size := by omega
      try have lw4_w2_0 : w2.heap.size < w4.heap.size := by omega
      try have lw4_w2_1 : w2.heap.size + 1 < w4.heap.size := by omega
      try have lw4_w2_2 : w2.heap.size + 1 + 1 < w4.heap.size := by omega
      try have lw4_w2_3 : w2.heap.size + 1 + 1 + 1 < w4.heap.size := by omega
      try have lw4_w2_4 : w2.heap.size + 1 + 1 + 1 + 1 < w4.heap.size := by omega
      try have lw4_w2_5 : w2.heap.size + 1 + 1 + 1 + 1 + 1 < w4.heap.size := by omega
      try have lw4_w2_6 : w2.heap.size + 1 + 1 + 1 + 1 + 1 + 1 < w4.heap.size := by omega
      try have lw4_w3_0 : w3.heap.size < w4.heap.size := by omega
      try have lw4_w3_1 : w3.heap.size + 1 < w4.heap.size := by omega
      try have lw4_w3_2 : w3.heap.size + 1 + 1 < w4.heap.size := by omega
      try have lw4_w3_3 : w3.heap.size + 1 + 1 + 1 < w4.heap.size := by omega
      try have lw4_w3_4 : w3.heap.size + 1 + 1 + 1 + 1 < w4.heap.size := by omega
      try have lw4_w3_5 : w3.heap.size + 1 + 1 + 1 + 1 + 1 < w4.heap.size := by omega
      try have lw4_w3_6 : w3.heap.size + 1 + 1 + 1 + 1 + 1 + 1 < w4.heap.size := by omega
      go_wp2_with fail
      go_call (height_is (hi2 a p) (hi2 b q) (lo2 c r) (lo2 d s) Y _ hY y1 y2) as e w5 ⟨rfl, bw5⟩
      obtain ⟨sw5, zw5, cw5, fw5⟩ := bcell bw5
      try simp only [World.size_alloc, World.size_setCell, World.size_drew] at sw5
      try have lw5_w_0 : w.heap.size < w5.heap.size := by omega
      try have lw5_w_1 : w.heap.size + 1 < w5.heap.size := by omega
      try have lw5_w_2 : w.heap.size + 1 + 1 < w5.heap.size := by omega
      try have lw5_w_3 : w.heap.size + 1 + 1 + 1 < w5.heap.size := by omega
      try have lw5_w_4 : w.heap.size + 1 + 1 + 1 + 1 < w5.heap.size := by omega
      try have lw5_w_5 : w.heap.size + 1 + 1 + 1 + 1 + 1 < w5.heap.size := by omega
      try have lw5_w_6 : w.heap.size + 1 + 1 + 1 + 1 + 1 + 1 < w5.heap.size := by omega
      try have lw5_w1_0 : w1.heap.size < w5.heap.size := by omega
      try have lw5_w1_1 : w1.heap.size + 1 < w5.heap.size := by omega
      try have lw5_w1_2 : w1.heap.size + 1 + 1 < w5.heap.size := by omega
      try have lw5_w1_3 : w1.heap.size + 1 + 1 + 1 < w5.heap.size := by omega
      try have lw5_w1_4 : w1.heap.size + 1 + 1 + 1 + 1 < w5.heap.size := by omega
      try have lw5_w1_5 : w1.heap.size + 1 + 1 + 1 + 1 + 1 < w5.heap.size := by omega
      try have lw5_w1_6 : w1.heap.size + 1 + 1 + 1 + 1 + 1 + 1 < w5.heap.size := by omega
      try have lw5_w2_0 : w2.heap.size < w5.heap.size := by omega
      try have lw5_w2_1 : w2.heap.size + 1 < w5.heap.size := by omega
      try have lw5_w2_2 : w2.heap.size + 1 + 1 < w5.heap.size := by omega
      try have lw5_w2_3 : w2.heap.size + 1 + 1 + 1 < w5.heap.size := by omega
      try have lw5_w2_4 : w2.heap.size + 1 + 1 + 1 + 1 < w5.heap.size := by omega
      try have lw5_w2_5 : w2.heap.size + 1 + 1 + 1 + 1 + 1 < w5.heap.size := by omega
      try have lw5_w2_6 : w2.heap.size + 1 + 1 + 1 + 1 + 1 + 1 < w5.heap.size := by omega
      try have lw5_w3_0 : w3.heap.size < w5.heap.size := by omega
      try have lw5_w3_1 : w3.heap.size + 1 < w5.heap.size := by omega
      try have lw5_w3_2 : w3.heap.size + 1 + 1 < w5.heap.size := by omega
      try have lw5_w3_3 : w3.heap.size + 1 + 1 + 1 < w5.heap.size := by omega
      try have lw5_w3_4 : w3.heap.size + 1 + 1 + 1 + 1 < w5.heap.size := by omega
      try have lw5_w3_5 : w3.heap.size + 1 + 1 + 1 + 1 + 1 < w5.heap.size := by omega
      try have lw5_w3_6 : w3.heap.size + 1 + 1 + 1 + 1 + 1 + 1 < w5.heap.size := by omega
      try have lw5_w4_0 : w4.heap.size < w5.heap.size := by omega
      try have lw5_w4_1 : w4.heap.size + 1 < w5.heap.size := by omega
      try have lw5_w4_2 : w4.heap.size + 1 + 1 < w5.heap.size := by omega
      try have lw5_w4_3 : w4.heap.size + 1 + 1 + 1 < w5.heap.size := by omega
      try have lw5_w4_4 : w4.heap.size + 1 + 1 + 1 + 1 < w5.heap.size := by omega
      try have lw5_w4_5 : w4.heap.size + 1 + 1 + 1 + 1 + 1 < w5.heap.size := by omega
      try have lw5_w4_6 : w4.heap.size + 1 + 1 + 1 + 1 + 1 + 1 < w5.heap.size := by omega
      go_wp2_with fail
      go_call (width_is (hi2 a p) (hi2 b q) (lo2 c r) (lo2 d s) X _ hX x1 x2) as e w6 ⟨rfl, bw6⟩
      obtain ⟨sw6, zw6, cw6, fw6⟩ := bcell bw6
      try simp only [World.size_alloc, World.size_setCell, World.size_drew] at sw6
      try have lw6_w_0 : w.heap.size < w6.heap.size := by omega
      try have lw6_w_1 : w.heap.size + 1 < w6.heap.size := by omega
      try have lw6_w_2 : w.heap.size + 1 + 1 < w6.heap.size := by omega
      try have lw6_w_3 : w.heap.size + 1 + 1 + 1 < w6.heap.size := by omega
      try have lw6_w_4 : w.heap.size + 1 + 1 + 1 + 1 < w6.heap.size := by omega
      try have lw6_w_5 : w.heap.size + 1 + 1 + 1 + 1 + 1 < w6.heap.size := by omega
      try have lw6_w_6 : w.heap.size + 1 + 1 + 1 + 1 + 1 + 1 < w6.heap.size := by omega
      try have lw6_w1_0 : w1.heap.size < w6.heap.size := by omega
      try have lw6_w1_1 : w1.heap.size + 1 < w6.heap.size := by omega
      try have lw6_w1_2 : w1.heap.size + 1 + 1 < w6.heap.size := by omega
      try have lw6_w1_3 : w1.heap.size + 1 + 1 + 1 < w6.heap.size := by omega
      try have lw6_w1_4 : w1.heap.size + 1 + 1 + 1 + 1 < w6.heap.size := by omega
      try have lw6_w1_5 : w1.heap.size + 1 + 1 + 1 + 1 + 1 < w6.heap.size := by omega
      try have lw6_w1_6 : w1.heap.size + 1 + 1 + 1 + 1 + 1 + 1 < w6.heap.size := by omega
      try have lw6_w2_0 : w2.heap.size < w6.heap.size := by omega
      try have lw6_w2_1 : w2.heap.size + 1 < w6.heap.size := by omega
      try have lw6_w2_2 : w2.heap.size + 1 + 1 < w6.heap.size := by omega
      try have lw6_w2_3 : w2.heap.size + 1 + 1 + 1 < w6.heap.size := by omega
      try have lw6_w2_4 : w2.heap.size + 1 + 1 + 1 + 1 < w6.heap.size := by omega
      try have lw6_w2_5 : w2.heap.size + 1 + 1 + 1 + 1 + 1 < w6.heap.size := by omega
      try have lw6_w2_6 : w2.heap.size + 1 + 1 + 1 + 1 + 1 + 1 < w6.heap.size := by omega
      try have lw6_w3_0 : w3.heap.size < w6.heap.size := by omega
      try have lw6_w3_1 : w3.heap.size + 1 < w6.heap.size := by omega
      try have lw6_w3_2 : w3.heap.size + 1 + 1 < w6.heap.size := by omega
      try have lw6_w3_3 : w3.heap.size + 1 + 1 + 1 < w6.heap.size := by omega
      try have lw6_w3_4 : w3.heap.size + 1 + 1 + 1 + 1 < w6.heap.size := by omega
      try have lw6_w3_5 : w3.heap.size + 1 + 1 + 1 + 1 + 1 < w6.heap.size := by omega
      try have lw6_w3_6 : w3.heap.size + 1 + 1 + 1 + 1 + 1 + 1 < w6.heap.size := by omega
      try have lw6_w4_0 : w4.heap.size < w6.heap.size := by omega
      try have lw6_w4_1 : w4.heap.size + 1 < w6.heap.size := by omega
      try have lw6_w4_2 : w4.heap.size + 1 + 1 < w6.heap.size := by omega
      try have lw6_w4_3 : w4.heap.size + 1 + 1 + 1 < w6.heap.size := by omega
      try have lw6_w4_4 : w4.heap.size + 1 + 1 + 1 + 1 < w6.heap.size := by omega
      try have lw6_w4_5 : w4.heap.size + 1 + 1 + 1 + 1 + 1 < w6.heap.size := by omega
      try have lw6_w4_6 : w4.heap.size + 1 + 1 + 1 + 1 + 1 + 1 < w6.heap.size := by omega
      try have lw6_w5_0 : w5.heap.size < w6.heap.size := by omega
      try have lw6_w5_1 : w5.heap.size + 1 < w6.heap.size := by omega
      try have lw6_w5_2 : w5.heap.size + 1 + 1 < w6.heap.size := by omega
      try have lw6_w5_3 : w5.heap.size + 1 + 1 + 1 < w6.heap.size := by omega
      try have lw6_w5_4 : w5.heap.size + 1 + 1 + 1 + 1 < w6.heap.size := by omega
      try have lw6_w5_5 : w5.heap.size + 1 + 1 + 1 + 1 + 1 < w6.heap.size := by omega
      try have lw6_w5_6 : w5.heap.size + 1 + 1 + 1 + 1 + 1 + 1 < w6.heap.size := by omega
      go_wp2_with fail
      go_ret
      exact ⟨ret_bool (by (rw [Bool.eq_iff_iff]; (try simp only [Bool.and_eq_true, Bool.or_eq_true, Bool.not_eq_true, decide_eq_true_eq, beq_iff_eq, beq_eq_false_iff_ne, ne_eq, decide_eq_false_iff_not, Bool.true_and, Bool.and_true, Bool.false_eq_true, true_and, and_true, false_iff, iff_false, true_iff, iff_true, false_and, and_false]); (try omega))), by (repeat (first | (with_reducible exact Below.refl _ _) | (with_reducible refine Ext.drewN ?_ _) | (with_reducible refine Below.drew ?_) | (with_reducible refine Ext.alloc ?_ _) | (with_reducible refine Ext.setCell ?_ (by simp; try omega) _) | (with_reducible refine Ext.trans ?_ (by assumption)) | (with_reducible assumption) | exact Below.refl _ _))⟩
    · skip
      go_enter Tryd.func27, Tryd.ntmps27
      go_wp2_with fail
      go_call (areValid2_any a b c d p q r s true _ _ _ (hC.ext (by (repeat (first | (with_reducible exact Below.refl _ _) | (with_reducible refine Ext.drewN ?_ _) | (with_reducible refine Below.drew ?_) | (with_reducible refine Ext.alloc ?_ _) | (with_reducible refine Ext.setCell ?_ (by simp; try omega) _) | (with_reducible refine Ext.trans ?_ (by assumption)) | (with_reducible assumption) | exact Below.refl _ _)))) hv (rects2 (by simp [go_sem]) (by simp [go_sem]) (by simp [go_sem]) (by simp [go_sem]) (by simp [go_sem]) (by simp [go_sem]) (by simp [go_sem]) (by simp [go_sem]))) as e w1 ⟨rfl, bw1⟩
      obtain ⟨sw1, zw1, cw1, fw1⟩ := bcell bw1
      try simp only [World.size_alloc, World.size_setCell, World.size_drew] at sw1
      try have lw1_w_0 : w.heap.size < w1.heap.size := by omega
      try have lw1_w_1 : w.heap.size + 1 < w1.heap.size := by omega
      try have lw1_w_2 : w.heap.size + 1 + 1 < w1.heap.size := by omega
      try have lw1_w_3 : w.heap.size + 1 + 1 + 1 < w1.heap.size := by omega
      try have lw1_w_4 : w.heap.size + 1 + 1 + 1 + 1 < w1.heap.size := by omega
      try have lw1_w_5 : w.heap.size + 1 + 1 + 1 + 1 + 1 < w1.heap.size := by omega
      try have lw1_w_6 : w.heap.size + 1 + 1 + 1 + 1 + 1 + 1 < w1.heap.size := by omega
      go_wp2_with fail
      go_call (meet_any a b c d p q r s) as e w2 ⟨rfl, bw2⟩
      obtain ⟨sw2, zw2, cw2, fw2⟩ := bcell bw2
      try simp only [World.size_alloc, World.size_setCell, World.size_drew] at sw2
      try have lw2_w_0 : w.heap.size < w2.heap.size := by omega
      try have lw2_w_1 : w.heap.size + 1 < w2.heap.size := by omega
      try have lw2_w_2 : w.heap.size + 1 + 1 < w2.heap.size := by omega
      try have lw2_w_3 : w.heap.size + 1 + 1 + 1 < w2.heap.size := by omega
      try have lw2_w_4 : w.heap.size + 1 + 1 + 1 + 1 < w2.heap.size := by omega
      try have lw2_w_5 : w.heap.size + 1 + 1 + 1 + 1 + 1 < w2.heap.size := by omega
      try have lw2_w_6 : w.heap.size + 1 + 1 + 1 + 1 + 1 + 1 < w2.heap.size := by omega
      try have lw2_w1_0 : w1.heap.size < w2.heap.size := by omega
      try have lw2_w1_1 : w1.heap.size + 1 < w2.heap.size := by omega
      try have lw2_w1_2 : w1.heap.size + 1 + 1 < w2.heap.size := by omega
      try have lw2_w1_3 : w1.heap.size + 1 + 1 + 1 < w2.heap.size := by omega
      try have lw2_w1_4 : w1.heap.size + 1 + 1 + 1 + 1 < w2.heap.size := by omega
      try have lw2_w1_5 : w1.heap.size + 1 + 1 + 1 + 1 + 1 < w2.heap.size := by omega
      try have lw2_w1_6 : w1.heap.size + 1 + 1 + 1 + 1 + 1 + 1 < w2.heap.size := by omega
      go_wp2_with fail
      go_call (width_is (hi2 a p) (hi2 b q) (lo2 c r) (lo2 d s) X _ hX x1 x2) as e w3 ⟨rfl, bw3⟩
      obtain ⟨sw3, zw3, cw3, fw3⟩ := bcell bw3
      try simp only [World.size_alloc, World.size_setCell, World.size_drew] at sw3
      try have lw3_w_0 : w.heap.size < w3.heap.size := by omega
      try have lw3_w_1 : w.heap.size + 1 < w3.heap.size := by omega
      try have lw3_w_2 : w.heap.size + 1 + 1 < w3.heap.size := by omega
      try have lw3_w_3 : w.heap.size + 1 + 1 + 1 < w3.heap.size := by omega
      try have lw3_w_4 : w.heap.size + 1 + 1 + 1 + 1 < w3.heap.size := by omega
      try have lw3_w_5 : w.heap.size + 1 + 1 + 1 + 1 + 1 < w3.heap.size := by omega
      try have lw3_w_6 : w.heap.size + 1 + 1 + 1 + 1 + 1 + 1 < w3.heap.size := by omega
      try have lw3_w1_0 : w1.heap.size < w3.heap.size := by omega
      try have lw3_w1_1 : w1.heap.size + 1 < w3.heap.size := by omega
      try have lw3_w1_2 : w1.heap.size + 1 + 1 < w3.heap.size := by omega
      try have lw3_w1_3 : w1.heap.size + 1 + 1 + 1 < w3.heap.size := by omega
      try have lw3_w1_4 : w1.heap.size + 1 + 1 + 1 + 1 < w3.heap.size := by omega
      try have lw3_w1_5 : w1.heap.size + 1 + 1 + 1 + 1 + 1 < w3.heap.size := by omega
      try have lw3_w1_6 : w1.heap.size + 1 + 1 + 1 + 1 + 1 + 1 < w3.heap.size := by omega
      try have lw3_w2_0 : w2.heap.size < w3.heap.size := by omega
      try have lw3_w2_1 : w2.heap.size + 1 < w3.heap.size := by omega
      try have lw3_w2_2 : w2.heap.size + 1 + 1 < w3.heap.size := by omega
      try have lw3_w2_3 : w2.heap.size + 1 + 1 + 1 < w3.heap.size := by omega
      try have lw3_w2_4 : w2.heap.size + 1 + 1 + 1 + 1 < w3.heap.size := by omega
      try have lw3_w2_5 : w2.heap.size + 1 + 1 + 1 + 1 + 1 < w3.heap.size := by omega
      try have lw3_w2_6 : w2.heap.size + 1 + 1 + 1 + 1 + 1 + 1 < w3.heap.size := by omega
      go_wp2_with fail
      go_call (height_is (hi2 a p) (hi2 b q) (lo2 c r) (lo2 d s) Y _ hY y1 y2) as e w4 ⟨rfl, bw4⟩
      obtain ⟨sw4, zw4, cw4, fw4⟩ := bcell bw4
      try simp only [World.size_alloc, World.size_setCell, World.size_drew] at sw4
      try have lw4_w_0 : w.heap.size < w4.heap.size := by omega
      try have lw4_w_1 : w.heap.size + 1 < w4.heap.size := by omega
      try have lw4_w_2 : w.heap.size + 1 + 1 < w4.heap.size := by omega
      try have lw4_w_3 : w.heap.size + 1 + 1 + 1 < w4.heap.size := by omega
      try have lw4_w_4 : w.heap.size + 1 + 1 + 1 + 1 < w4.heap.size := by omega
      try have lw4_w_5 : w.heap.size + 1 + 1 + 1 + 1 + 1 < w4.heap.size := by omega
      try have lw4_w_6 : w.heap.size + 1 + 1 + 1 + 1 + 1 + 1 < w4.heap.size := by omega
      try have lw4_w1_0 : w1.heap.size < w4.heap.size := by omega
      try have lw4_w1_1 : w1.heap.size + 1 < w4.heap.size := by omega
      try have lw4_w1_2 : w1.heap.size + 1 + 1 < w4.heap.size := by omega
      try have lw4_w1_3 : w1.heap.size + 1 + 1 + 1 < w4.heap.size := by omega
      try have lw4_w1_4 : w1.heap.size + 1 + 1 + 1 + 1 < w4.heap.size := by omega
      try have lw4_w1_5 : w1.heap.size + 1 + 1 + 1 + 1 + 1 < w4.heap.size := by omega
      try have lw4_w1_6 : w1.heap.size + 1 + 1 + 1 + 1 + 1 + 1 < w4.heap.size := by omega
      try have lw4_w2_0 : w2.heap.size < w4.heap.size := by omega
      try have lw4_w2_1 : w2.heap.size + 1 < w4.heap.size := by omega
      try have lw4_w2_2 : w2.heap.size + 1 + 1 < w4.heap.size := by omega
      try have lw4_w2_3 : w2.heap.size + 1 + 1 + 1 < w4.heap.size := by omega
      try have lw4_w2_4 : w2.heap.size + 1 + 1 + 1 + 1 < w4.heap.size := by omega
      try have lw4_w2_5 : w2.heap.size + 1 + 1 + 1 + 1 + 1 < w4.heap.size := by omega
      try have lw4_w2_6 : w2.heap.size + 1 + 1 + 1 + 1 + 1 + 1 < w4.heap.size := by omega
      try have lw4_w3_0 : w3.heap.size < w4.heap.size := by omega
      try have lw4_w3_1 : w3.heap.size + 1 < w4.heap.size := by omega
      try have lw4_w3_2 : w3.heap.size + 1 + 1 < w4.heap.size := by omega
      try have lw4_w3_3 : w3.heap.size + 1 + 1 + 1 < w4.heap.size := by omega
      try have lw4_w3_4 : w3.heap.size + 1 + 1 + 1 + 1 < w4.heap.size := by omega
      try have lw4_w3_5 : w3.heap.size + 1 + 1 + 1 + 1 + 1 < w4.heap.size := by omega
      try have lw4_w3_6 : w3.heap.size + 1 + 1 + 1 + 1 + 1 + 1 < w4.heap.size := by omega
      go_wp2_with fail
      go_call (height_is (hi2 a p) (hi2 b q) (lo2 c r) (lo2 d s) Y _ hY y1 y2) as e w5 ⟨rfl, bw5⟩
      obtain ⟨sw5, zw5, cw5, fw5⟩ := bcell bw5
      try simp only [World.size_alloc, World.size_setCell, World.size_drew] at sw5
      try have lw5_w_0 : w.heap.size < w5.heap.size := by omega
      try have lw5_w_1 : w.heap.size + 1 < w5.heap.size := by omega
      try have lw5_w_2 : w.heap.size + 1 + 1 < w5.heap.size := by omega
      try have lw5_w_3 : w.heap.size + 1 + 1 + 1 < w5.heap.size := by omega
      try have lw5_w_4 : w.heap.size + 1 + 1 + 1 + 1 < w5.heap.size := by omega
      try have lw5_w_5 : w.heap.size + 1 + 1 + 1 + 1 + 1 < w5.heap.size := by omega
      try have lw5_w_6 : w.heap.size + 1 + 1 + 1 + 1 + 1 + 1 < w5.heap.size := by omega
      try have lw5_w1_0 : w1.heap.size < w5.heap.size := by omega
      try have lw5_w1_1 : w1.heap.size + 1 < w5.heap.size := by omega
      try have lw5_w1_2 : w1.heap.size + 1 + 1 < w5.heap.size := by omega
      try have lw5_w1_3 : w1.heap.size + 1 + 1 + 1 < w5.heap.size := by omega
      try have lw5_w1_4 : w1.heap.size + 1 + 1 + 1 + 1 < w5.heap.size := by omega
      try have lw5_w1_5 : w1.heap.size + 1 + 1 + 1 + 1 + 1 < w5.heap.size := by omega
      try have lw5_w1_6 : w1.heap.size + 1 + 1 + 1 + 1 + 1 + 1 < w5.heap.size := by omega
      try have lw5_w2_0 : w2.heap.size < w5.heap.size := by omega
      try have lw5_w2_1 : w2.heap.size + 1 < w5.heap.size := by omega
      try have lw5_w2_2 : w2.heap.size + 1 + 1 < w5.heap.size := by omega
      try have lw5_w2_3 : w2.heap.size + 1 + 1 + 1 < w5.heap.size := by omega
      try have lw5_w2_4 : w2.heap.size + 1 + 1 + 1 + 1 < w5.heap.size := by omega
      try have lw5_w2_5 : w2.heap.size + 1 + 1 + 1 + 1 + 1 < w5.heap.size := by omega
      try have lw5_w2_6 : w2.heap.size + 1 + 1 + 1 + 1 + 1 + 1 < w5.heap.size := by omega
      try have lw5_w3_0 : w3.heap.size < w5.heap.size := by omega
      try have lw5_w3_1 : w3.heap.size + 1 < w5.heap.size := by omega
      try have lw5_w3_2 : w3.heap.size + 1 + 1 < w5.heap.size := by omega
      try have lw5_w3_3 : w3.heap.size + 1 + 1 + 1 < w5.heap.size := by omega
      try have lw5_w3_4 : w3.heap.size + 1 + 1 + 1 + 1 < w5.heap.size := by omega
      try have lw5_w3_5 : w3.heap.size + 1 + 1 + 1 + 1 + 1 < w5.heap.size := by omega
      try have lw5_w3_6 : w3.heap.size + 1 + 1 + 1 + 1 + 1 + 1 < w5.heap.size := by omega
      try have lw5_w4_0 : w4.heap.size < w5.heap.size := by omega
      try have lw5_w4_1 : w4.heap.size + 1 < w5.heap.size := by omega
      try have lw5_w4_2 : w4.heap.size + 1 + 1 < w5.heap.size := by omega
      try have lw5_w4_3 : w4.heap.size + 1 + 1 + 1 < w5.heap.size := by omega
      try have lw5_w4_4 : w4.heap.size + 1 + 1 + 1 + 1 < w5.heap.size := by omega
      try have lw5_w4_5 : w4.heap.size + 1 + 1 + 1 + 1 + 1 < w5.heap.size := by omega
      try have lw5_w4_6 : w4.heap.size + 1 + 1 + 1 + 1 + 1 + 1 < w5.heap.size := by omega
      go_wp2_with fail
      go_ret
      exact ⟨ret_bool (by (rw [Bool.eq_iff_iff]; (try simp only [Bool.and_eq_true, Bool.or_eq_true, Bool.not_eq_true, decide_eq_true_eq, beq_iff_eq, beq_eq_false_iff_ne, ne_eq, decide_eq_false_iff_not, Bool.true_and, Bool.and_true, Bool.false_eq_true, true_and, and_true, false_iff, iff_false, true_iff, iff_true, false_and, and_false]); (try omega))), by (repeat (first | (with_reducible exact Below.refl _ _) | (with_reducible refine Ext.drewN ?_ _) | (with_reducible refine Below.drew ?_) | (with_reducible refine Ext.alloc ?_ _) | (with_reducible refine Ext.setCell ?_ (by simp; try omega) _) | (with_reducible refine Ext.trans ?_ (by assumption)) | (with_reducible assumption) | exact Below.refl _ _))⟩
    · skip
      go_enter Tryd.func27, Tryd.ntmps27
      go_wp2_with fail
      go_call (areValid2_any a b c d p q r s true _ _ _ (hC.ext (by (repeat (first | (with_reducible exact Below.refl _ _) | (with_reducible refine Ext.drewN ?_ _) | (with_reducible refine Below.drew ?_) | (with_reducible refine Ext.alloc ?_ _) | (with_reducible refine Ext.setCell ?_ (by simp; try omega) _) | (with_reducible refine Ext.trans ?_ (by assumption)) | (with_reducible assumption) | exact Below.refl _ _)))) hv (rects2 (by simp [go_sem]) (by simp [go_sem]) (by simp [go_sem]) (by simp [go_sem]) (by simp [go_sem]) (by simp [go_sem]) (by simp [go_sem]) (by simp [go_sem]))) as e w1 ⟨rfl, bw1⟩
      obtain ⟨sw1, zw1, cw1, fw1⟩ := bcell bw1
      try simp only [World.size_alloc, World.size_setCell, World.size_drew] at sw1
      try have lw1_w_0 : w.heap.size < w1.heap.size := by omega
      try have lw1_w_1 : w.heap.size + 1 < w1.heap.size := by omega
      try have lw1_w_2 : w.heap.size + 1 + 1 < w1.heap.size := by omega
      try have lw1_w_3 : w.heap.size + 1 + 1 + 1 < w1.heap.size := by omega
      try have lw1_w_4 : w.heap.size + 1 + 1 + 1 + 1 < w1.heap.size := by omega
      try have lw1_w_5 : w.heap.size + 1 + 1 + 1 + 1 + 1 < w1.heap.size := by omega
      try have lw1_w_6 : w.heap.size + 1 + 1 + 1 + 1 + 1 + 1 < w1.heap.size := by omega
      go_wp2_with fail
      go_call (meet_any a b c d p q r s) as e w2 ⟨rfl, bw2⟩
      obtain ⟨sw2, zw2, cw2, fw2⟩ := bcell bw2
      try simp only [World.size_alloc, World.size_setCell, World.size_drew] at sw2
      try have lw2_w_0 : w.heap.size < w2.heap.size := by omega
      try have lw2_w_1 : w.heap.size + 1 < w2.heap.size := by omega
      try have lw2_w_2 : w.heap.size + 1 + 1 < w2.heap.size := by omega
      try have lw2_w_3 : w.heap.size + 1 + 1 + 1 < w2.heap.size := by omega
      try have lw2_w_4 : w.heap.size + 1 + 1 + 1 + 1 < w2.heap.size := by omega
      try have lw2_w_5 : w.heap.size + 1 + 1 + 1 + 1 + 1 < w2.heap.size := by omega
      try have lw2_w_6 : w.heap.size + 1 + 1 + 1 + 1 + 1 + 1 < w2.heap.size := by omega
      try have lw2_w1_0 : w1.heap.size < w2.heap.size := by omega
      try have lw2_w1_1 : w1.heap.size + 1 < w2.heap.size := by omega
      try have lw2_w1_2 : w1.heap.size + 1 + 1 < w2.heap.size := by omega
      try have lw2_w1_3 : w1.heap.size + 1 + 1 + 1 < w2.heap.size := by omega
      try have lw2_w1_4 : w1.heap.size + 1 + 1 + 1 + 1 < w2.heap.size := by omega
      try have lw2_w1_5 : w1.heap.size + 1 + 1 + 1 + 1 + 1 < w2.heap.size := by omega
      try have lw2_w1_6 : w1.heap.size + 1 + 1 + 1 + 1 + 1 + 1 < w2.heap.size := by omega
      go_wp2_with fail
      go_call (width_is (hi2 a p) (hi2 b q) (lo2 c r) (lo2 d s) X _ hX x1 x2) as e w3 ⟨rfl, bw3⟩
      obtain ⟨sw3, zw3, cw3, fw3⟩ := bcell bw3
      try simp only [World.size_alloc, World.size_setCell, World.size_drew] at sw3
      try have lw3_w_0 : w.heap.size < w3.heap.size := by omega
      try have lw3_w_1 : w.heap.size + 1 < w3.heap.size := by omega
      try have lw3_w_2 : w.heap.size + 1 + 1 < w3.heap.size := by omega
      try have lw3_w_3 : w.heap.size + 1 + 1 + 1 < w3.heap.size := by omega
      try have lw3_w_4 : w.heap.size + 1 + 1 + 1 + 1 < w3.heap.size := by omega
      try have lw3_w_5 : w.heap.size + 1 + 1 + 1 + 1 + 1 < w3.heap.size := by omega
      try have lw3_w_6 : w.heap.size + 1 + 1 + 1 + 1 + 1 + 1 < w3.heap.size := by omega
      try have lw3_w1_0 : w1.heap.size < w3.heap.size := by omega
      try have lw3_w1_1 : w1.heap.size + 1 < w3.heap.size := by omega
      try have lw3_w1_2 : w1.heap.size + 1 + 1 < w3.heap.size := by omega
      try have lw3_w1_3 : w1.heap.size + 1 + 1 + 1 < w3.heap.size := by omega
      try have lw3_w1_4 : w1.heap.size + 1 + 1 + 1 + 1 < w3.heap.size := by omega
      try have lw3_w1_5 : w1.heap.size + 1 + 1 + 1 + 1 + 1 < w3.heap.size := by omega
      try have lw3_w1_6 : w1.heap.size + 1 + 1 + 1 + 1 + 1 + 1 < w3.heap.size := by omega
      try have lw3_w2_0 : w2.heap.size < w3.heap.size := by omega
      try have lw3_w2_1 : w2.heap.size + 1 < w3.heap.size := by omega
      try have lw3_w2_2 : w2.heap.size + 1 + 1 < w3.heap.size := by omega
      try have lw3_w2_3 : w2.heap.size + 1 + 1 + 1 < w3.heap.size := by omega
      try have lw3_w2_4 : w2.heap.size + 1 + 1 + 1 + 1 < w3.heap.size := by omega
      try have lw3_w2_5 : w2.heap.size + 1 + 1 + 1 + 1 + 1 < w3.heap.size := by omega
      try have lw3_w2_6 : w2.heap.size + 1 + 1 + 1 + 1 + 1 + 1 < w3.heap.size := by omega
      go_wp2_with fail
      go_call (height_is (hi2 a p) (hi2 b q) (lo2 c r) (lo2 d s) Y _ hY y1 y2) as e w4 ⟨rfl, bw4⟩
      obtain ⟨sw4, zw4, cw4, fw4⟩ := bcell bw4
      try simp only [World.size_alloc, World.size_setCell, World.size_drew] at sw4
      try have lw4_w_0 : w.heap.size < w4.heap.size := by omega
      try have lw4_w_1 : w.heap.size + 1 < w4.heap.size := by omega
      try have lw4_w_2 : w.heap.size + 1 + 1 < w4.heap.size := by omega
      try have lw4_w_3 : w.heap.size + 1 + 1 + 1 < w4.heap.size := by omega
      try have lw4_w_4 : w.heap.size + 1 + 1 + 1 + 1 < w4.heap.size := by omega
      try have lw4_w_5 : w.heap.size + 1 + 1 + 1 + 1 + 1 < w4.heap.size := by omega
      try have lw4_w_6 : w.heap.size + 1 + 1 + 1 + 1 + 1 + 1 < w4.heap.size := by omega
      try have lw4_w1_0 : w1.heap.size < w4.heap.size := by omega
      try have lw4_w1_1 : w1.heap.size + 1 < w4.heap.size := by omega
      try have lw4_w1_2 : w1.heap.size + 1 + 1 < w4.heap.size := by omega
      try have lw4_w1_3 : w1.heap.size + 1 + 1 + 1 < w4.heap.size := by omega
      try have lw4_w1_4 : w1.heap.size + 1 + 1 + 1 + 1 < w4.heap.size := by omega
      try have lw4_w1_5 : w1.heap.size + 1 + 1 + 1 + 1 + 1 < w4.heap.size := by omega
      try have lw4_w1_6 : w1.heap.size + 1 + 1 + 1 + 1 + 1 + 1 < w4.heap.size := by omega
      try have lw4_w2_0 : w2.heap.size < w4.heap.size := by omega
      try have lw4_w2_1 : w2.heap.size + 1 < w4.heap.size := by omega
      try have lw4_w2_2 : w2.heap.size + 1 + 1 < w4.heap.size := by omega
      try have lw4_w2_3 : w2.heap.size + 1 + 1 + 1 < w4.heap.size := by omega
      try have lw4_w2_4 : w2.heap.size + 1 + 1 + 1 + 1 < w4.heap.size := by omega
      try have lw4_w2_5 : w2.heap.size + 1 + 1 + 1 + 1 + 1 < w4.heap.size := by omega
      try have lw4_w2_6 : w2.heap.size + 1 + 1 + 1 + 1 + 1 + 1 < w4.heap.size := by omega
      try have lw4_w3_0 : w3.heap.size < w4.heap.size := by omega
      try have lw4_w3_1 : w3.heap.size + 1 < w4.heap.size := by omega
      try have lw4_w3_2 : w3.heap.size + 1 + 1 < w4.heap.size := by omega
      try have lw4_w3_3 : w3.heap.size + 1 + 1 + 1 < w4.heap.size := by omega
      try have lw4_w3_4 : w3.heap.size + 1 + 1 + 1 + 1 < w4.heap.size := by omega
      try have lw4_w3_5 : w3.heap.size + 1 + 1 + 1 + 1 + 1 < w4.heap.size := by omega
      try have lw4_w3_6 : w3.heap.size + 1 + 1 + 1 + 1 + 1 + 1 < w4.heap.size := by omega
      go_wp2_with fail
      go_call (width_is (hi2 a p) (hi2 b q) (lo2 c r) (lo2 d s) X _ hX x1 x2) as e w5 ⟨rfl, bw5⟩
      obtain ⟨sw5, zw5, cw5, fw5⟩ := bcell bw5
      try simp only [World.size_alloc, World.size_setCell, World.size_drew] at sw5
      try have lw5_w_0 : w.heap.size < w5.heap.size := by omega
      try have lw5_w_1 : w.heap.size + 1 < w5.heap.size := by omega
      try have lw5_w_2 : w.heap.size + 1 + 1 < w5.heap.size := by omega
      try have lw5_w_3 : w.heap.size + 1 + 1 + 1 < w5.heap.size := by omega
      try have lw5_w_4 : w.heap.size + 1 + 1 + 1 + 1 < w5.heap.size := by omega
      try have lw5_w_5 : w.heap.size + 1 + 1 + 1 + 1 + 1 < w5.heap.size := by omega
      try have lw5_w_6 : w.heap.size + 1 + 1 + 1 + 1 + 1 + 1 < w5.heap.size := by omega
      try have lw5_w1_0 : w1.heap.size < w5.heap.size := by omega
      try have lw5_w1_1 : w1.heap.size + 1 < w5.heap.size := by omega
      try have lw5_w1_2 : w1.heap.size + 1 + 1 < w5.heap.size := by omega
      try have lw5_w1_3 : w1.heap.size + 1 + 1 + 1 < w5.heap.size := by omega
      try have lw5_w1_4 : w1.heap.size + 1 + 1 + 1 + 1 < w5.heap.size := by omega
      try have lw5_w1_5 : w1.heap.size + 1 + 1 + 1 + 1 + 1 < w5.heap.size := by omega
      try have lw5_w1_6 : w1.heap.size + 1 + 1 + 1 + 1 + 1 + 1 < w5.heap.size := by omega
      try have lw5_w2_0 : w2.heap.size < w5.heap.size := by omega
      try have lw5_w2_1 : w2.heap.size + 1 < w5.heap.size := by omega
      try have lw5_w2_2 : w2.heap.size + 1 + 1 < w5.heap.size := by omega
      try have lw5_w2_3 : w2.heap.size + 1 + 1 + 1 < w5.heap.size := by omega
      try have lw5_w2_4 : w2.heap.size + 1 + 1 + 1 + 1 < w5.heap.size := by omega
      try have lw5_w2_5 : w2.heap.size + 1 + 1 + 1 + 1 + 1 < w5.heap.size := by omega
      try have lw5_w2_6 : w2.heap.size + 1 + 1 + 1 + 1 + 1 + 1 < w5.heap.size := by omega
      try have lw5_w3_0 : w3.heap.size < w5.heap.size := by omega
      try have lw5_w3_1 : w3.heap.size + 1 < w5.heap.size := by omega
      try have lw5_w3_2 : w3.heap.size + 1 + 1 < w5.heap.size := by omega
      try have lw5_w3_3 : w3.heap.size + 1 + 1 + 1 < w5.heap.size := by omega
      try have lw5_w3_4 : w3.heap.size + 1 + 1 + 1 + 1 < w5.heap.size := by omega
      try have lw5_w3_5 : w3.heap.size + 1 + 1 + 1 + 1 + 1 < w5.heap.size := by omega
      try have lw5_w3_6 : w3.heap.size + 1 + 1 + 1 + 1 + 1 + 1 < w5.heap.size := by omega
      try have lw5_w4_0 : w4.heap.size < w5.heap.size := by omega
      try have lw5_w4_1 : w4.heap.size + 1 < w5.heap.size := by omega
      try have lw5_w4_2 : w4.heap.size + 1 + 1 < w5.heap.size := by omega
      try have lw5_w4_3 : w4.heap.size + 1 + 1 + 1 < w5.heap.size := by omega
      try have lw5_w4_4 : w4.heap.size + 1 + 1 + 1 + 1 < w5.heap.size := by omega
      try have lw5_w4_5 : w4.heap.size + 1 + 1 + 1 + 1 + 1 < w5.heap.size := by omega
      try have lw5_w4_6 : w4.heap.size + 1 + 1 + 1 + 1 + 1 + 1 < w5.heap.size := by omega
      go_wp2_with fail
      go_ret
      exact ⟨ret_bool (by (rw [Bool.eq_iff_iff]; (try simp only [Bool.and_eq_true, Bool.or_eq_true, Bool.not_eq_true, decide_eq_true_eq, beq_iff_eq, beq_eq_false_iff_ne, ne_eq, decide_eq_false_iff_not, Bool.true_and, Bool.and_true, Bool.false_eq_true, true_and, and_true, false_iff, iff_false, true_iff, iff_true, false_and, and_false]); (try omega))), by (repeat (first | (with_reducible exact Below.refl _ _) | (with_reducible refine Ext.drewN ?_ _) | (with_reducible refine Below.drew ?_) | (with_reducible refine Ext.alloc ?_ _) | (with_reducible refine Ext.setCell ?_ (by simp; try omega) _) | (with_reducible refine Ext.trans ?_ (by assumption)) | (with_reducible assumption) | exact Below.refl _ _))⟩
    · skip
      go_enter Tryd.func27, Tryd.ntmps27
      go_wp2_with fail
      go_call (areValid2_any a b c d p q r s true _ _ _ (hC.ext (by (repeat (first | (with_reducible exact Below.refl _ _) | (with_reducible refine Ext.drewN ?_ _) | (with_reducible refine Below.drew ?_) | (with_reducible refine Ext.alloc ?_ _) | (with_reducible refine Ext.setCell ?_ (by simp; try omega) _) | (with_reducible refine Ext.trans ?_ (by assumption)) | (with_reducible assumption) | exact Below.refl _ _)))) hv (rects2 (by simp [go_sem]) (by simp [go_sem]) (by simp [go_sem]) (by simp [go_sem]) (by simp [go_sem]) (by simp [go_sem]) (by simp [go_sem]) (by simp [go_sem]))) as e w1 ⟨rfl, bw1⟩
      obtain ⟨sw1, zw1, cw1, fw1⟩ := bcell bw1
      try simp only [World.size_alloc, World.size_setCell, World.size_drew] at sw1
      try have lw1_w_0 : w.heap.size < w1.heap.size := by omega
      try have lw1_w_1 : w.heap.size + 1 < w1.heap.size := by omega
      try have lw1_w_2 : w.heap.size + 1 + 1 < w1.heap.size := by omega
      try have lw1_w_3 : w.heap.size + 1 + 1 + 1 < w1.heap.size := by omega
      try have lw1_w_4 : w.heap.size + 1 + 1 + 1 + 1 < w1.heap.size := by omega
      try have lw1_w_5 : w.heap.size + 1 + 1 + 1 + 1 + 1 < w1.heap.size := by omega
      try have lw1_w_6 : w.heap.size + 1 + 1 + 1 + 1 + 1 + 1 < w1.heap.size := by omega
      go_wp2_with fail
      go_call (meet_any a b c d p q r s) as e w2 ⟨rfl, bw2⟩
      obtain ⟨sw2, zw2, cw2, fw2⟩ := bcell bw2
      try simp only [World.size_alloc, World.size_setCell, World.size_drew] at sw2
      try have lw2_w_0 : w.heap.size < w2.heap.size := by omega
      try have lw2_w_1 : w.heap.size + 1 < w2.heap.size := by omega
      try have lw2_w_2 : w.heap.size + 1 + 1 < w2.heap.size := by omega
      try have lw2_w_3 : w.heap.size + 1 + 1 + 1 < w2.heap.size := by omega
      try have lw2_w_4 : w.heap.size + 1 + 1 + 1 + 1 < w2.heap.size := by omega
      try have lw2_w_5 : w.heap.size + 1 + 1 + 1 + 1 + 1 < w2.heap.size := by omega
      try have lw2_w_6 : w.heap.size + 1 + 1 + 1 + 1 + 1 + 1 < w2.heap.size := by omega
      try have lw2_w1_0 : w1.heap.size < w2.heap.size := by omega
      try have lw2_w1_1 : w1.heap.size + 1 < w2.heap.size := by omega
      try have lw2_w1_2 : w1.heap.size + 1 + 1 < w2.heap.size := by omega
      try have lw2_w1_3 : w1.heap.size + 1 + 1 + 1 < w2.heap.size := by omega
      try have lw2_w1_4 : w1.heap.size + 1 + 1 + 1 + 1 < w2.heap.size := by omega
      try have lw2_w1_5 : w1.heap.size + 1 + 1 + 1 + 1 + 1 < w2.heap.size := by omega
      try have lw2_w1_6 : w1.heap.size + 1 + 1 + 1 + 1 + 1 + 1 < w2.heap.size := by omega
      go_wp2_with fail
      go_call (width_is (hi2 a p) (hi2 b q) (lo2 c r) (lo2 d s) X _ hX x1 x2) as e w3 ⟨rfl, bw3⟩
      obtain ⟨sw3, zw3, cw3, fw3⟩ := bcell bw3
      try simp only [World.size_alloc, World.size_setCell, World.size_drew] at sw3
      try have lw3_w_0 : w.heap.size < w3.heap.size := by omega
      try have lw3_w_1 : w.heap.size + 1 < w3.heap.size := by omega
      try have lw3_w_2 : w.heap.size + 1 + 1 < w3.heap.size := by omega
      try have lw3_w_3 : w.heap.size + 1 + 1 + 1 < w3.heap.size := by omega
      try have lw3_w_4 : w.heap.size + 1 + 1 + 1 + 1 < w3.heap.size := by omega
      try have lw3_w_5 : w.heap.size + 1 + 1 + 1 + 1 + 1 < w3.heap.size := by omega
      try have lw3_w_6 : w.heap.size + 1 + 1 + 1 + 1 + 1 + 1 < w3.heap.size := by omega
      try have lw3_w1_0 : w1.heap.size < w3.heap.size := by omega
      try have lw3_w1_1 : w1.heap.size + 1 < w3.heap.size := by omega
      try have lw3_w1_2 : w1.heap.size + 1 + 1 < w3.heap.size := by omega
      try have lw3_w1_3 : w1.heap.size + 1 + 1 + 1 < w3.heap.size := by omega
      try have lw3_w1_4 : w1.heap.size + 1 + 1 + 1 + 1 < w3.heap.size := by omega
      try have lw3_w1_5 : w1.heap.size + 1 + 1 + 1 + 1 + 1 < w3.heap.size := by omega
      try have lw3_w1_6 : w1.heap.size + 1 + 1 + 1 + 1 + 1 + 1 < w3.heap.size := by omega
      try have lw3_w2_0 : w2.heap.size < w3.heap.size := by omega
      try have lw3_w2_1 : w2.heap.size + 1 < w3.heap.size := by omega
      try have lw3_w2_2 : w2.heap.size + 1 + 1 < w3.heap.size := by omega
      try have lw3_w2_3 : w2.heap.size + 1 + 1 + 1 < w3.heap.size := by omega
      try have lw3_w2_4 : w2.heap.size + 1 + 1 + 1 + 1 < w3.heap.size := by omega
      try have lw3_w2_5 : w2.heap.size + 1 + 1 + 1 + 1 + 1 < w3.heap.size := by omega
      try have lw3_w2_6 : w2.heap.size + 1 + 1 + 1 + 1 + 1 + 1 < w3.heap.size := by omega
      go_wp2_with fail
      go_call (height_is (hi2 a p) (hi2 b q) (lo2 c r) (lo2 d s) Y _ hY y1 y2) as e w4 ⟨rfl, bw4⟩
      obtain ⟨sw4, zw4, cw4, fw4⟩ := bcell bw4
      try simp only [World.size_alloc, World.size_setCell, World.size_drew] at sw4
      try have lw4_w_0 : w.heap.size < w4.heap.size := by omega
      try have lw4_w_1 : w.heap.size + 1 < w4.heap.size := by omega
      try have lw4_w_2 : w.heap.size + 1 + 1 < w4.heap.size := by omega
      try have lw4_w_3 : w.heap.size + 1 + 1 + 1 < w4.heap.size := by omega
      try have lw4_w_4 : w.heap.size + 1 + 1 + 1 + 1 < w4.heap.size := by omega
      try have lw4_w_5 : w.heap.size + 1 + 1 + 1 + 1 + 1 < w4.heap.size := by omega
      try have lw4_w_6 : w.heap.size + 1 + 1 + 1 + 1 + 1 + 1 < w4.heap.size := by omega
      try have lw4_w1_0 : w1.heap.size < w4.heap.size := by omega
      try have lw4_w1_1 : w1.heap.size + 1 < w4.heap.size := by omega
      try have lw4_w1_2 : w1.heap.size + 1 + 1 < w4.heap.size := by omega
      try have lw4_w1_3 : w1.heap.size + 1 + 1 + 1 < w4.heap.size := by omega
      try have lw4_w1_4 : w1.heap.size + 1 + 1 + 1 + 1 < w4.heap.size := by omega
      try have lw4_w1_5 : w1.heap.size + 1 + 1 + 1 + 1 + 1 < w4.heap.size := by omega
      try have lw4_w1_6 : w1.heap.size + 1 + 1 + 1 + 1 + 1 + 1 < w4.heap.size := by omega
      try have lw4_w2_0 : w2.heap.size < w4.heap.size := by omega
      try have lw4_w2_1 : w2.heap.size + 1 < w4.heap.size := by omega
      try have lw4_w2_2 : w2.heap.size + 1 + 1 < w4.heap.size := by omega
      try have lw4_w2_3 : w2.heap.size + 1 + 1 + 1 < w4.heap.size := by omega
      try have lw4_w2_4 : w2.heap.size + 1 + 1 + 1 + 1 < w4.heap.size := by omega
      try have lw4_w2_5 : w2.heap.size + 1 + 1 + 1 + 1 + 1 < w4.heap.size := by omega
      try have lw4_w2_6 : w2.heap.size + 1 + 1 + 1 + 1 + 1 + 1 < w4.heap.size := by omega
      try have lw4_w3_0 : w3.heap.size < w4.heap.size := by omega
      try have lw4_w3_1 : w3.heap.size + 1 < w4.heap.size := by omega
      try have lw4_w3_2 : w3.heap.size + 1 + 1 < w4.heap.size := by omega
      try have lw4_w3_3 : w3.heap.size + 1 + 1 + 1 < w4.heap.size := by omega
      try have lw4_w3_4 : w3.heap.size + 1 + 1 + 1 + 1 < w4.heap.size := by omega
      try have lw4_w3_5 : w3.heap.size + 1 + 1 + 1 + 1 + 1 < w4.heap.size := by omega
      try have lw4_w3_6 : w3.heap.size + 1 + 1 + 1 + 1 + 1 + 1 < w4.heap.size := by omega
      go_wp2_with fail
      go_ret
      exact ⟨ret_bool (by (rw [Bool.eq_iff_iff]; (try simp only [Bool.and_eq_true, Bool.or_eq_true, Bool.not_eq_true, decide_eq_true_eq, beq_iff_eq, beq_eq_false_iff_ne, ne_eq, decide_eq_false_iff_not, Bool.true_and, Bool.and_true, Bool.false_eq_true, true_and, and_true, false_iff, iff_false, true_iff, iff_true, false_and, and_false]); (try omega))), by (repeat (first | (with_reducible exact Below.refl _ _) | (with_reducible refine Ext.drewN ?_ _) | (with_reducible refine Below.drew ?_) | (with_reducible refine Ext.alloc ?_ _) | (with_reducible refine Ext.setCell ?_ (by simp; try omega) _) | (with_reducible refine Ext.trans ?_ (by assumption)) | (with_reducible assumption) | exact Below.refl _ _))⟩
    · skip
      go_enter Tryd.func27, Tryd.ntmps27
      go_wp2_with fail
      go_call (areValid2_any a b c d p q r s true _ _ _ (hC.ext (by (repeat (first | (with_reducible exact Below.refl _ _) | (with_reducible refine Ext.drewN ?_ _) | (with_reducible refine Below.drew ?_) | (with_reducible refine Ext.alloc ?_ _) | (with_reducible refine Ext.setCell ?_ (by simp; try omega) _) | (with_reducible refine Ext.trans ?_ (by assumption)) | (with_reducible assumption) | exact Below.refl _ _)))) hv (rects2 (by simp [go_sem]) (by simp [go_sem]) (by simp [go_sem]) (by simp [go_sem]) (by simp [go_sem]) (by simp [go_sem]) (by simp [go_sem]) (by simp [go_sem]))) as e w1 ⟨rfl, bw1⟩
      obtain ⟨sw1, zw1, cw1, fw1⟩ := bcell bw1
      try simp only [World.size_alloc, World.size_setCell, World.size_drew] at sw1
      try have lw1_w_0 : w.heap.size < w1.heap.size := by omega
      try have lw1_w_1 : w.heap.size + 1 < w1.heap.size := by omega
      try have lw1_w_2 : w.heap.size + 1 + 1 < w1.heap.size := by omega
      try have lw1_w_3 : w.heap.size + 1 + 1 + 1 < w1.heap.size := by omega
      try have lw1_w_4 : w.heap.size + 1 + 1 + 1 + 1 < w1.heap.size := by omega
      try have lw1_w_5 : w.heap.size + 1 + 1 + 1 + 1 + 1 < w1.heap.size := by omega
      try have lw1_w_6 : w.heap.size + 1 + 1 + 1 + 1 + 1 + 1 < w1.heap.size := by omega
      go_wp2_with fail
      go_call (meet_any a b c d p q r s) as e w2 ⟨rfl, bw2⟩
      obtain ⟨sw2, zw2, cw2, fw2⟩ := bcell bw2
      try simp only [World.size_alloc, World.size_setCell, World.size_drew] at sw2
      try have lw2_w_0 : w.heap.size < w2.heap.size := by omega
      try have lw2_w_1 : w.heap.size + 1 < w2.heap.size := by omega
      try have lw2_w_2 : w.heap.size + 1 + 1 < w2.heap.size := by omega
      try have lw2_w_3 : w.heap.size + 1 + 1 + 1 < w2.heap.size := by omega
      try have lw2_w_4 : w.heap.size + 1 + 1 + 1 + 1 < w2.heap.size := by omega
      try have lw2_w_5 : w.heap.size + 1 + 1 + 1 + 1 + 1 < w2.heap.size := by omega
      try have lw2_w_6 : w.heap.size + 1 + 1 + 1 + 1 + 1 + 1 < w2.heap.size := by omega
      try have lw2_w1_0 : w1.heap.size < w2.heap.size := by omega
      try have lw2_w1_1 : w1.heap.size + 1 < w2.heap.size := by omega
      try have lw2_w1_2 : w1.heap.size + 1 + 1 < w2.heap.size := by omega
      try have lw2_w1_3 : w1.heap.size + 1 + 1 + 1 < w2.heap.size := by omega
      try have lw2_w1_4 : w1.heap.size + 1 + 1 + 1 + 1 < w2.heap.size := by omega
      try have lw2_w1_5 : w1.heap.size + 1 + 1 + 1 + 1 + 1 < w2.heap.size := by omega
      try have lw2_w1_6 : w1.heap.size + 1 + 1 + 1 + 1 + 1 + 1 < w2.heap.size := by omega
      go_wp2_with fail
      go_call (width_is (hi2 a p) (hi2 b q) (lo2 c r) (lo2 d s) X _ hX x1 x2) as e w3 ⟨rfl, bw3⟩
      obtain ⟨sw3, zw3, cw3, fw3⟩ := bcell bw3
      try simp only [World.size_alloc, World.size_setCell, World.size_drew] at sw3
      try have lw3_w_0 : w.heap.size < w3.heap.size := by omega
      try have lw3_w_1 : w.heap.size + 1 < w3.heap.size := by omega
      try have lw3_w_2 : w.heap.size + 1 + 1 < w3.heap.size := by omega
      try have lw3_w_3 : w.heap.size + 1 + 1 + 1 < w3.heap.size := by omega
      try have lw3_w_4 : w.heap.size + 1 + 1 + 1 + 1 < w3.heap.size := by omega
      try have lw3_w_5 : w.heap.size + 1 + 1 + 1 + 1 + 1 < w3.heap.size := by omega
      try have lw3_w_6 : w.heap.size + 1 + 1 + 1 + 1 + 1 + 1 < w3.heap.size := by omega
      try have lw3_w1_0 : w1.heap.size < w3.heap.size := by omega
      try have lw3_w1_1 : w1.heap.size + 1 < w3.heap.size := by omega
      try have lw3_w1_2 : w1.heap.size + 1 + 1 < w3.heap.size := by omega
      try have lw3_w1_3 : w1.heap.size + 1 + 1 + 1 < w3.heap.size := by omega
      try have lw3_w1_4 : w1.heap.size + 1 + 1 + 1 + 1 < w3.heap.size := by omega
      try have lw3_w1_5 : w1.heap.size + 1 + 1 + 1 + 1 + 1 < w3.heap.size := by omega
      try have lw3_w1_6 : w1.heap.size + 1 + 1 + 1 + 1 + 1 + 1 < w3.heap.size := by omega
      try have lw3_w2_0 : w2.heap.size < w3.heap.size := by omega
      try have lw3_w2_1 : w2.heap.size + 1 < w3.heap.size := by omega
      try have lw3_w2_2 : w2.heap.size + 1 + 1 < w3.heap.size := by omega
      try have lw3_w2_3 : w2.heap.size + 1 + 1 + 1 < w3.heap.size := by omega
      try have lw3_w2_4 : w2.heap.size + 1 + 1 + 1 + 1 < w3.heap.size := by omega
      try have lw3_w2_5 : w2.heap.size + 1 + 1 + 1 + 1 + 1 < w3.heap.size := by omega
      try have lw3_w2_6 : w2.heap.size + 1 + 1 + 1 + 1 + 1 + 1 < w3.heap.size := by omega
      go_wp2_with fail
      go_call (height_is (hi2 a p) (hi2 b q) (lo2 c r) (lo2 d s) Y _ hY y1 y2) as e w4 ⟨rfl, bw4⟩
      obtain ⟨sw4, zw4, cw4, fw4⟩ := bcell bw4
      try simp only [World.size_alloc, World.size_setCell, World.size_drew] at sw4
      try have lw4_w_0 : w.heap.size < w4.heap.size := by omega
      try have lw4_w_1 : w.heap.size + 1 < w4.heap.size := by omega
      try have lw4_w_2 : w.heap.size + 1 + 1 < w4.heap.size := by omega
      try have lw4_w_3 : w.heap.size + 1 + 1 + 1 < w4.heap.size := by omega
      try have lw4_w_4 : w.heap.size + 1 + 1 + 1 + 1 < w4.heap.size := by omega
      try have lw4_w_5 : w.heap.size + 1 + 1 + 1 + 1 + 1 < w4.heap.size := by omega
      try have lw4_w_6 : w.heap.size + 1 + 1 + 1 + 1 + 1 + 1 < w4.heap.size := by omega
      try have lw4_w1_0 : w1.heap.size < w4.heap.size := by omega
      try have lw4_w1_1 : w1.heap.size + 1 < w4.heap.size := by omega
      try have lw4_w1_2 : w1.heap.size + 1 + 1 < w4.heap.size := by omega
      try have lw4_w1_3 : w1.heap.size + 1 + 1 + 1 < w4.heap.size := by omega
      try have lw4_w1_4 : w1.heap.size + 1 + 1 + 1 + 1 < w4.heap.size := by omega
      try have lw4_w1_5 : w1.heap.size + 1 + 1 + 1 + 1 + 1 < w4.heap.size := by omega
      try have lw4_w1_6 : w1.heap.size + 1 + 1 + 1 + 1 + 1 + 1 < w4.heap.size := by omega
      try have lw4_w2_0 : w2.heap.size < w4.heap.size := by omega
      try have lw4_w2_1 : w2.heap.size + 1 < w4.heap.size := by omega
      try have lw4_w2_2 : w2.heap.size + 1 + 1 < w4.heap.size := by omega
      try have lw4_w2_3 : w2.heap.size + 1 + 1 + 1 < w4.heap.size := by omega
      try have lw4_w2_4 : w2.heap.size + 1 + 1 + 1 + 1 < w4.heap.size := by omega
      try have lw4_w2_5 : w2.heap.size + 1 + 1 + 1 + 1 + 1 < w4.heap.size := by omega
      try have lw4_w2_6 : w2.heap.size + 1 + 1 + 1 + 1 + 1 + 1 < w4.heap.size := by omega
      try have lw4_w3_0 : w3.heap.size < w4.heap.size := by omega
      try have lw4_w3_1 : w3.heap.size + 1 < w4.heap.size := by omega
      try have lw4_w3_2 : w3.heap.size + 1 + 1 < w4.heap.size := by omega
      try have lw4_w3_3 : w3.heap.size + 1 + 1 + 1 < w4.heap.size := by omega
      try have lw4_w3_4 : w3.heap.size + 1 + 1 + 1 + 1 < w4.heap.size := by omega
      try have lw4_w3_5 : w3.heap.size + 1 + 1 + 1 + 1 + 1 < w4.heap.size := by omega
      try have lw4_w3_6 : w3.heap.size + 1 + 1 + 1 + 1 + 1 + 1 < w4.heap.size := by omega
      go_wp2_with fail
      go_call (width_is (hi2 a p) (hi2 b q) (lo2 c r) (lo2 d s) X _ hX x1 x2) as e w5 ⟨rfl, bw5⟩
      obtain ⟨sw5, zw5, cw5, fw5⟩ := bcell bw5
      try simp only [World.size_alloc, World.size_setCell, World.size_drew] at sw5
      try have lw5_w_0 : w.heap.size < w5.heap.size := by omega
      try have lw5_w_1 : w.heap.size + 1 < w5.heap.size := by omega
      try have lw5_w_2 : w.heap.size + 1 + 1 < w5.heap.size := by omega
      try have lw5_w_3 : w.heap.size + 1 + 1 + 1 < w5.heap.size := by omega
      try have lw5_w_4 : w.heap.size + 1 + 1 + 1 + 1 < w5.heap.size := by omega
      try have lw5_w_5 : w.heap.size + 1 + 1 + 1 + 1 + 1 < w5.heap.size := by omega
      try have lw5_w_6 : w.heap.size + 1 + 1 + 1 + 1 + 1 + 1 < w5.heap.size := by omega
      try have lw5_w1_0 : w1.heap.size < w5.heap.size := by omega
      try have lw5_w1_1 : w1.heap.size + 1 < w5.heap.size := by omega
      try have lw5_w1_2 : w1.heap.size + 1 + 1 < w5.heap.size := by omega
      try have lw5_w1_3 : w1.heap.size + 1 + 1 + 1 < w5.heap.size := by omega
      try have lw5_w1_4 : w1.heap.size + 1 + 1 + 1 + 1 < w5.heap.size := by omega
      try have lw5_w1_5 : w1.heap.size + 1 + 1 + 1 + 1 + 1 < w5.heap.size := by omega
      try have lw5_w1_6 : w1.heap.size + 1 + 1 + 1 + 1 + 1 + 1 < w5.heap.size := by omega
      try have lw5_w2_0 : w2.heap.size < w5.heap.size := by omega
      try have lw5_w2_1 : w2.heap.size + 1 < w5.heap.size := by omega
      try have lw5_w2_2 : w2.heap.size + 1 + 1 < w5.heap.size := by omega
      try have lw5_w2_3 : w2.heap.size + 1 + 1 + 1 < w5.heap.size := by omega
      try have lw5_w2_4 : w2.heap.size + 1 + 1 + 1 + 1 < w5.heap.size := by omega
      try have lw5_w2_5 : w2.heap.size + 1 + 1 + 1 + 1 + 1 < w5.heap.size := by omega
      try have lw5_w2_6 : w2.heap.size + 1 + 1 + 1 + 1 + 1 + 1 < w5.heap.size := by omega
      try have lw5_w3_0 : w3.heap.size < w5.heap.size := by omega
      try have lw5_w3_1 : w3.heap.size + 1 < w5.heap.size := by omega
      try have lw5_w3_2 : w3.heap.size + 1 + 1 < w5.heap.size := by omega
      try have lw5_w3_3 : w3.heap.size + 1 + 1 + 1 < w5.heap.size := by omega
      try have lw5_w3_4 : w3.heap.size + 1 + 1 + 1 + 1 < w5.heap.size := by omega
      try have lw5_w3_5 : w3.heap.size + 1 + 1 + 1 + 1 + 1 < w5.heap.size := by omega
      try have lw5_w3_6 : w3.heap.size + 1 + 1 + 1 + 1 + 1 + 1 < w5.heap.size := by omega
      try have lw5_w4_0 : w4.heap.size < w5.heap.size := by omega
      try have lw5_w4_1 : w4.heap.size + 1 < w5.heap.size := by omega
      try have lw5_w4_2 : w4.heap.size + 1 + 1 < w5.heap.size := by omega
      try have lw5_w4_3 : w4.heap.size + 1 + 1 + 1 < w5.heap.size := by omega
      try have lw5_w4_4 : w4.heap.size + 1 + 1 + 1 + 1 < w5.heap.size := by omega
      try have lw5_w4_5 : w4.heap.size + 1 + 1 + 1 + 1 + 1 < w5.heap.size := by omega
      try have lw5_w4_6 : w4.heap.size + 1 + 1 + 1 + 1 + 1 + 1 < w5.heap.size := by omega
      go_wp2_with fail
      go_ret
      exact ⟨ret_bool (by (rw [Bool.eq_iff_iff]; (try simp only [Bool.and_eq_true, Bool.or_eq_true, Bool.not_eq_true, decide_eq_true_eq, beq_iff_eq, beq_eq_false_iff_ne, ne_eq, decide_eq_false_iff_not, Bool.true_and, Bool.and_true, Bool.false_eq_true, true_and, and_true, false_iff, iff_false, true_iff, iff_true, false_and, and_false]); (try omega))), by (repeat (first | (with_reducible exact Below.refl _ _) | (with_reducible refine Ext.drewN ?_ _) | (with_reducible refine Below.drew ?_) | (with_reducible refine Ext.alloc ?_ _) | (with_reducible refine Ext.setCell ?_ (by simp; try omega) _) | (with_reducible refine Ext.trans ?_ (by assumption)) | (with_reducible assumption) | exact Below.refl _ _))⟩
    · skip
      go_enter Tryd.func27, Tryd.ntmps27
      go_wp2_with fail
      go_call (areValid2_any a b c d p q r s true _ _ _ (hC.ext (by (repeat (first | (with_reducible exact Below.refl _ _) | (with_reducible refine Ext.drewN ?_ _) | (with_reducible refine Below.drew ?_) | (with_reducible refine Ext.alloc ?_ _) | (with_reducible refine Ext.setCell ?_ (by simp; try omega) _) | (with_reducible refine Ext.trans ?_ (by assumption)) | (with_reducible assumption) | exact Below.refl _ _)))) hv (rects2 (by simp [go_sem]) (by simp [go_sem]) (by simp [go_sem]) (by simp [go_sem]) (by simp [go_sem]) (by simp [go_sem]) (by simp [go_sem]) (by simp [go_sem]))) as e w1 ⟨rfl, bw1⟩
      obtain ⟨sw1, zw1, cw1, fw1⟩ := bcell bw1
      try simp only [World.size_alloc, World.size_setCell, World.size_drew] at sw1
      try have lw1_w_0 : w.heap.size < w1.heap.size := by omega
      try have lw1_w_1 : w.heap.size + 1 < w1.heap.size := by omega
      try have lw1_w_2 : w.heap.size + 1 + 1 < w1.heap.size := by omega
      try have lw1_w_3 : w.heap.size + 1 + 1 + 1 < w1.heap.size := by omega
      try have lw1_w_4 : w.heap.size + 1 + 1 + 1 + 1 < w1.heap.size := by omega
      try have lw1_w_5 : w.heap.size + 1 + 1 + 1 + 1 + 1 < w1.heap.size := by omega
      try have lw1_w_6 : w.heap.size + 1 + 1 + 1 + 1 + 1 + 1 < w1.heap.size := by omega
      go_wp2_with fail
      go_call (meet_any a b c d p q r s) as e w2 ⟨rfl, bw2⟩
      obtain ⟨sw2, zw2, cw2, fw2⟩ := bcell bw2
      try simp only [World.size_alloc, World.size_setCell, World.size_drew] at sw2
      try have lw2_w_0 : w.heap.size < w2.heap.size := by omega
      try have lw2_w_1 : w.heap.size + 1 < w2.heap.size := by omega
      try have lw2_w_2 : w.heap.size + 1 + 1 < w2.heap.size := by omega
      try have lw2_w_3 : w.heap.size + 1 + 1 + 1 < w2.heap.size := by omega
      try have lw2_w_4 : w.heap.size + 1 + 1 + 1 + 1 < w2.heap.size := by omega
      try have lw2_w_5 : w.heap.size + 1 + 1 + 1 + 1 + 1 < w2.heap.size := by omega
      try have lw2_w_6 : w.heap.size + 1 + 1 + 1 + 1 + 1 + 1 < w2.heap.size := by omega
      try have lw2_w1_0 : w1.heap.size < w2.heap.size := by omega
      try have lw2_w1_1 : w1.heap.size + 1 < w2.heap.size := by omega
      try have lw2_w1_2 : w1.heap.size + 1 + 1 < w2.heap.size := by omega
      try have lw2_w1_3 : w1.heap.size + 1 + 1 + 1 < w2.heap.size := by omega
      try have lw2_w1_4 : w1.heap.size + 1 + 1 + 1 + 1 < w2.heap.size := by omega
      try have lw2_w1_5 : w1.heap.size + 1 + 1 + 1 + 1 + 1 < w2.heap.size := by omega
      try have lw2_w1_6 : w1.heap.size + 1 + 1 + 1 + 1 + 1 + 1 < w2.heap.size := by omega
      go_wp2_with fail
      go_call (width_is (hi2 a p) (hi2 b q) (lo2 c r) (lo2 d s) X _ hX x1 x2) as e w3 ⟨rfl, bw3⟩
      obtain ⟨sw3, zw3, cw3, fw3⟩ := bcell bw3
      try simp only [World.size_alloc, World.size_setCell, World.size_drew] at sw3
      try have lw3_w_0 : w.heap.size < w3.heap.size := by omega
      try have lw3_w_1 : w.heap.size + 1 < w3.heap.size := by omega
      try have lw3_w_2 : w.heap.size + 1 + 1 < w3.heap.size := by omega
      try have lw3_w_3 : w.heap.size + 1 + 1 + 1 < w3.heap.size := by omega
      try have lw3_w_4 : w.heap.size + 1 + 1 + 1 + 1 < w3.heap.size := by omega
      try have lw3_w_5 : w.heap.size + 1 + 1 + 1 + 1 + 1 < w3.heap.size := by omega
      try have lw3_w_6 : w.heap.size + 1 + 1 + 1 + 1 + 1 + 1 < w3.heap.size := by omega
      try have lw3_w1_0 : w1.heap.size < w3.heap.size := by omega
      try have lw3_w1_1 : w1.heap.size + 1 < w3.heap.size := by omega
      try have lw3_w1_2 : w1.heap.size + 1 + 1 < w3.heap.size := by omega
      try have lw3_w1_3 : w1.heap.size + 1 + 1 + 1 < w3.heap.size := by omega
      try have lw3_w1_4 : w1.heap.size + 1 + 1 + 1 + 1 < w3.heap.size := by omega
      try have lw3_w1_5 : w1.heap.size + 1 + 1 + 1 + 1 + 1 < w3.heap.size := by omega
      try have lw3_w1_6 : w1.heap.size + 1 + 1 + 1 + 1 + 1 + 1 < w3.heap.size := by omega
      try have lw3_w2_0 : w2.heap.size < w3.heap.size := by omega
      try have lw3_w2_1 : w2.heap.size + 1 < w3.heap.size := by omega
      try have lw3_w2_2 : w2.heap.size + 1 + 1 < w3.heap.size := by omega
      try have lw3_w2_3 : w2.heap.size + 1 + 1 + 1 < w3.heap.size := by omega
      try have lw3_w2_4 : w2.heap.size + 1 + 1 + 1 + 1 < w3.heap.size := by omega
      try have lw3_w2_5 : w2.heap.size + 1 + 1 + 1 + 1 + 1 < w3.heap.size := by omega
      try have lw3_w2_6 : w2.heap.size + 1 + 1 + 1 + 1 + 1 + 1 < w3.heap.size := by omega
      go_wp2_with fail
      go_call (height_is (hi2 a p) (hi2 b q) (lo2 c r) (lo2 d s) Y _ hY y1 y2) as e w4 ⟨rfl, bw4⟩
      obtain ⟨sw4, zw4, cw4, fw4⟩ := bcell bw4
      try simp only [World.size_alloc, World.size_setCell, World.size_drew] at sw4
      try have lw4_w_0 : w.heap.size < w4.heap.size := by omega
      try have lw4_w_1 : w.heap.size + 1 < w4.heap.size := by omega
      try have lw4_w_2 : w.heap.size + 1 + 1 < w4.heap.size := by omega
      try have lw4_w_3 : w.heap.size + 1 + 1 + 1 < w4.heap.size := by omega
      try have lw4_w_4 : w.heap.size + 1 + 1 + 1 + 1 < w4.heap.size := by omega
      try have lw4_w_5 : w.heap.size + 1 + 1 + 1 + 1 + 1 < w4.heap.size := by omega
      try have lw4_w_6 : w.heap.size + 1 + 1 + 1 + 1 + 1 + 1 < w4.heap.size := by omega
      try have lw4_w1_0 : w1.heap.size < w4.heap.size := by omega
      try have lw4_w1_1 : w1.heap.size + 1 < w4.heap.size := by omega
      try have lw4_w1_2 : w1.heap.size + 1 + 1 < w4.heap.size := by omega
      try have lw4_w1_3 : w1.heap.size + 1 + 1 + 1 < w4.heap.size := by omega
      try have lw4_w1_4 : w1.heap.size + 1 + 1 + 1 + 1 < w4.heap.size := by omega
      try have lw4_w1_5 : w1.heap.size + 1 + 1 + 1 + 1 + 1 < w4.heap.size := by omega
      try have lw4_w1_6 : w1.heap.size + 1 + 1 + 1 + 1 + 1 + 1 < w4.heap.size := by omega
      try have lw4_w2_0 : w2.heap.size < w4.heap.size := by omega
      try have lw4_w2_1 : w2.heap.size + 1 < w4.heap.size := by omega
      try have lw4_w2_2 : w2.heap.size + 1 + 1 < w4.heap.size := by omega
      try have lw4_w2_3 : w2.heap.size + 1 + 1 + 1 < w4.heap.size := by omega
      try have lw4_w2_4 : w2.heap.size + 1 + 1 + 1 + 1 < w4.heap.size := by omega
      try have lw4_w2_5 : w2.heap.size + 1 + 1 + 1 + 1 + 1 < w4.heap.size := by omega
      try have lw4_w2_6 : w2.heap.size + 1 + 1 + 1 + 1 + 1 + 1 < w4.heap.size := by omega
      try have lw4_w3_0 : w3.heap.size < w4.heap.size := by omega
      try have lw4_w3_1 : w3.heap.size + 1 < w4.heap.size := by omega
      try have lw4_w3_2 : w3.heap.size + 1 + 1 < w4.heap.size := by omega
      try have lw4_w3_3 : w3.heap.size + 1 + 1 + 1 < w4.heap.size := by omega
      try have lw4_w3_4 : w3.heap.size + 1 + 1 + 1 + 1 < w4.heap.size := by omega
      try have lw4_w3_5 : w3.heap.size + 1 + 1 + 1 + 1 + 1 < w4.heap.size := by omega
      try have lw4_w3_6 : w3.heap.size + 1 + 1 + 1 + 1 + 1 + 1 < w4.heap.size := by omega
      go_wp2_with fail
      go_ret
      exact ⟨ret_bool (by (rw [Bool.eq_iff_iff]; (try simp only [Bool.and_eq_true, Bool.or_eq_true, Bool.not_eq_true, decide_eq_true_eq, beq_iff_eq, beq_eq_false_iff_ne, ne_eq, decide_eq_false_iff_not, Bool.true_and, Bool.and_true, Bool.false_eq_true, true_and, and_true, false_iff, iff_false, true_iff, iff_true, false_and, and_false]); (try omega))), by (repeat (first | (with_reducible exact Below.refl _ _) | (with_reducible refine Ext.drewN ?_ _) | (with_reducible refine Below.drew ?_) | (with_reducible refine Ext.alloc ?_ _) | (with_reducible refine Ext.setCell ?_ (by simp; try omega) _) | (with_reducible refine Ext.trans ?_ (by assumption)) | (with_reducible assumption) | exact Below.refl _ _))⟩

end Go.Proofs.YtdcddneanbplpaaDoor
