/- Rectangles: overlap, what two have in common, abutment, gaps. Conditions: none but those of each theorem. -/
import Derived.Test.YtdcddneanbplpaaDoorReC
namespace Go.Proofs.YtdcddneanbplpaaDoor
open Go.RowKit
set_option linter.unusedVariables false
set_option linter.unusedSimpArgs false
attribute [local go_sem ↓] Go.wp_at_zero Go.wp_at_succ

theorem hi2_bd (a p : Int) : a ≤ hi2 a p ∧ p ≤ hi2 a p ∧ (hi2 a p = a ∨ hi2 a p = p) := by
  unfold hi2; split <;> omega
theorem lo2_bd (a p : Int) : lo2 a p ≤ a ∧ lo2 a p ≤ p ∧ (lo2 a p = a ∨ lo2 a p = p) := by
  unfold lo2; split <;> omega

theorem span_yes (a b c d : Int) (w : World) (ha : -10000 ≤ a) (ha' : a ≤ 10000) (hb : -10000 ≤ b) (hb' : b ≤ 10000) (hc : -10000 ≤ c) (hc' : c ≤ 10000) (hd : -10000 ≤ d) (hd' : d ≤ 10000) : Calls Tryd.prog 71 #[.int .i64 a, .int .i64 b, .int .i64 c, .int .i64 d] w fun e w' => e = .returned (.int .i64 (lo2 b d - hi2 a c)) ∧ Below w.heap.size w w' := by
  obtain ⟨h1, h2, h3⟩ := hi2_bd a c
  obtain ⟨k1, k2, k3⟩ := lo2_bd b d
  refine (l02Span_any a b c d w).mono fun e w' ⟨he, hw⟩ => ⟨?_, Ext.same hw⟩
  rw [he]
  exact ret_int (by rw [wrap64]; omega)

def ovB (a b c d p q r s : Int) : Bool := rvB a b c d && (rvB p q r s && decide (hi2 a p < lo2 c r ∧ hi2 b q < lo2 d s))
theorem ov_meet {a b c d p q r s : Int} (h1 : rvB a b c d = true) (h2 : rvB p q r s = true) : rvB (hi2 a p) (hi2 b q) (lo2 c r) (lo2 d s) = decide (hi2 a p < lo2 c r ∧ hi2 b q < lo2 d s) := by
  have i := rvB_t h1
  have j := rvB_t h2
  have k1 := hi2_bd a p
  have k2 := hi2_bd b q
  have k3 := lo2_bd c r
  have k4 := lo2_bd d s
  unfold rvB
  rw [decide_eq_decide]
  omega

set_option maxHeartbeats 4000000 in
theorem specRectsOverlap_any (a b c d p q r s : Int) (w : World) : Calls Tryd.prog 24 #[.agg #[.int .i64 a, .int .i64 b, .int .i64 c, .int .i64 d], .agg #[.int .i64 p, .int .i64 q, .int .i64 r, .int .i64 s]] w fun e w' => e = .returned (.bool (ovB a b c d p q r s)) ∧ Below w.heap.size w w' := by
  unfold ovB
  cases h1 : rvB a b c d with
  | false =>
    go_enter Tryd.func24, Tryd.ntmps24
    go_wp2_with fail
    go_call (specValidRect_any) as e w1 ⟨rfl, bw1⟩
    obtain ⟨sw1, zw1, cw1, fw1⟩ := bcell bw1
    try simp only [World.size_alloc, World.size_setCell, World.size_drew] at sw1
    try have lw1_w_0 : w.heap.size < w1.heap.size := by omega
    try have lw1_w_1 : w.heap.size + 1 < w1.heap.size := by omega
    try have lw1_w_2 : w.heap.size + 1 + 1 < w1.heap.size := by omega
    try have lw1_w_3 : w.heap.size + 1 + 1 + 1 < w1.heap.size := by omega
    try have lw1_w_4 : w.heap.size + 1 + 1 + 1 + 1 < w1.heap.size := by omega
    try have lw1_w_5 : w.heap.size + 1 + 1 + 1 + 1 + 1 < w1.heap.size := by omega
    try have lw1_w_6 : w.heap.size + 1 + 1 + 1 + 1 + 1 + 1 < w1.heap.size := by omega
    rw [h1]
    go_wp2_with fail
    go_ret
    exact ⟨rfl, by (repeat (first | (with_reducible exact Below.refl _ _) | (with_reducible refine Ext.drewN ?_ _) | (with_reducible refine Below.drew ?_) | (with_reducible refine Ext.alloc ?_ _) | (with_reducible refine Ext.setCell ?_ (by simp; try omega) _) | (with_reducible refine Ext.trans ?_ (by assumption)) | (with_reducible assumption) | exact Below.refl _ _))⟩
  | true =>
    cases h2 : rvB p q r s with
    | false =>
      go_enter Tryd.func24, Tryd.ntmps24
      go_wp2_with fail
      go_call (specValidRect_any) as e w1 ⟨rfl, bw1⟩
      obtain ⟨sw1, zw1, cw1, fw1⟩ := bcell bw1
      try simp only [World.size_alloc, World.size_setCell, World.size_drew] at sw1
      try have lw1_w_0 : w.heap.size < w1.heap.size := by omega
      try have lw1_w_1 : w.heap.size + 1 < w1.heap.size := by omega
      try have lw1_w_2 : w.heap.size + 1 + 1 < w1.heap.size := by omega
      try have lw1_w_3 : w.heap.size + 1 + 1 + 1 < w1.heap.size := by omega
      try have lw1_w_4 : w.heap.size + 1 + 1 + 1 + 1 < w1.heap.size := by omega
      try have lw1_w_5 : w.heap.size + 1 + 1 + 1 + 1 + 1 < w1.heap.size := by omega
      try have lw1_w_6 : w.heap.size + 1 + 1 + 1 + 1 + 1 + 1 < w1.heap.size := by omega
      rw [h1]
      go_wp2_with fail
      go_call (specValidRect_any) as e w2 ⟨rfl, bw2⟩
      obtain ⟨sw2, zw2, cw2, fw2⟩ := bcell bw2
      try simp only [World.size_alloc, World.size_setCell, World.size_drew] at sw2
      try have lw2_w_0 : w.heap.size < w2.heap.size := by omega
      try have lw2_w_1 : w.heap.size + 1 < w2.heap.size := by omega
      try have lw2_w_2 : w.heap.size + 1 + 1 < w2.heap.size := by omega
      try have lw2_w_3 : w.heap.size + 1 + 1 + 1 < w2.heap.size := by omega
      try have lw2_w_4 : w.heap.size + 1 + 1 + 1 + 1 < w2.heap.size := by omega
      try have lw2_w_5 : w.heap.size + 1 + 1 + 1 + 1 + 1 < w2.heap.size := by omega
      try have lw2_w_6 : w.heap.size + 1 + 1 + 1 + 1 + 1 + 1 < w2.heap.size := by omega
      try have lw2_w1_0 : w1.heap.size < w2.heap.size := by omega
      try have lw2_w1_1 : w1.heap.size + 1 < w2.heap.size := by omega
      try have lw2_w1_2 : w1.heap.size + 1 + 1 < w2.heap.size := by omega
      try have lw2_w1_3 : w1.heap.size + 1 + 1 + 1 < w2.heap.size := by omega
      try have lw2_w1_4 : w1.heap.size + 1 + 1 + 1 + 1 < w2.heap.size := by omega
      try have lw2_w1_5 : w1.heap.size + 1 + 1 + 1 + 1 + 1 < w2.heap.size := by omega
      try have lw2_w1_6 : w1.heap.size + 1 + 1 + 1 + 1 + 1 + 1 < w2.heap.size := by omega
      rw [h2]
      go_wp2_with fail
      go_ret
      exact ⟨rfl, by (repeat (first | (with_reducible exact Below.refl _ _) | (with_reducible refine Ext.drewN ?_ _) | (with_reducible refine Below.drew ?_) | (with_reducible refine Ext.alloc ?_ _) | (with_reducible refine Ext.setCell ?_ (by simp; try omega) _) | (with_reducible refine Ext.trans ?_ (by assumption)) | (with_reducible assumption) | exact Below.refl _ _))⟩
    | true =>
      obtain ⟨i1, i2, i3, i4, i5, i6⟩ := rvB_t h1
      obtain ⟨j1, j2, j3, j4, j5, j6⟩ := rvB_t h2
      have k1 := hi2_bd a p
      have k2 := hi2_bd b q
      have k3 := lo2_bd c r
      have k4 := lo2_bd d s
      by_cases g1 : hi2 a p < lo2 c r
      · have g1' : 0 < lo2 c r - hi2 a p := by omega
        by_cases g2 : hi2 b q < lo2 d s
        · have g2' : 0 < lo2 d s - hi2 b q := by omega
          go_enter Tryd.func24, Tryd.ntmps24
          go_wp2_with fail
          go_call (specValidRect_any) as e w1 ⟨rfl, bw1⟩
          obtain ⟨sw1, zw1, cw1, fw1⟩ := bcell bw1
          try simp only [World.size_alloc, World.size_setCell, World.size_drew] at sw1
          try have lw1_w_0 : w.heap.size < w1.heap.size := by omega
          try have lw1_w_1 : w.heap.size + 1 < w1.heap.size := by omega
          try have lw1_w_2 : w.heap.size + 1 + 1 < w1.heap.size := by omega
          try have lw1_w_3 : w.heap.size + 1 + 1 + 1 < w1.heap.size := by omega
          try have lw1_w_4 : w.heap.size + 1 + 1 + 1 + 1 < w1.heap.size := by omega
          try have lw1_w_5 : w.heap.size + 1 + 1 + 1 + 1 + 1 < w1.heap.size := by omega
          try have lw1_w_6 : w.heap.size + 1 + 1 + 1 + 1 + 1 + 1 < w1.heap.size := by omega
          rw [h1]
          go_wp2_with fail
          go_call (specValidRect_any) as e w2 ⟨rfl, bw2⟩
          obtain ⟨sw2, zw2, cw2, fw2⟩ := bcell bw2
          try simp only [World.size_alloc, World.size_setCell, World.size_drew] at sw2
          try have lw2_w_0 : w.heap.size < w2.heap.size := by omega
          try have lw2_w_1 : w.heap.size + 1 < w2.heap.size := by omega
          try have lw2_w_2 : w.heap.size + 1 + 1 < w2.heap.size := by omega
          try have lw2_w_3 : w.heap.size + 1 + 1 + 1 < w2.heap.size := by omega
          try have lw2_w_4 : w.heap.size + 1 + 1 + 1 + 1 < w2.heap.size := by omega
          try have lw2_w_5 : w.heap.size + 1 + 1 + 1 + 1 + 1 < w2.heap.size := by omega
          try have lw2_w_6 : w.heap.size + 1 + 1 + 1 + 1 + 1 + 1 < w2.heap.size := by omega
          try have lw2_w1_0 : w1.heap.size < w2.heap.size := by omega
          try have lw2_w1_1 : w1.heap.size + 1 < w2.heap.size := by omega
          try have lw2_w1_2 : w1.heap.size + 1 + 1 < w2.heap.size := by omega
          try have lw2_w1_3 : w1.heap.size + 1 + 1 + 1 < w2.heap.size := by omega
          try have lw2_w1_4 : w1.heap.size + 1 + 1 + 1 + 1 < w2.heap.size := by omega
          try have lw2_w1_5 : w1.heap.size + 1 + 1 + 1 + 1 + 1 < w2.heap.size := by omega
          try have lw2_w1_6 : w1.heap.size + 1 + 1 + 1 + 1 + 1 + 1 < w2.heap.size := by omega
          rw [h2]
          go_wp2_with fail
          go_call (span_yes) as e w3 ⟨rfl, bw3⟩
          obtain ⟨sw3, zw3, cw3, fw3⟩ := bcell bw3
          try simp only [World.size_alloc, World.size_setCell, World.size_drew] at sw3
          try have lw3_w_0 : w.heap.size < w3.heap.size := by omega
          try have lw3_w_1 : w.heap.size + 1 < w3.heap.size := by omega
          try have lw3_w_2 : w.heap.size + 1 + 1 < w3.heap.size := by omega
          try have lw3_w_3 : w.heap.size + 1 + 1 + 1 < w3.heap.size := by omega
          try have lw3_w_4 : w.heap.size + 1 + 1 + 1 + 1 < w3.heap.size := by omega
          try have lw3_w_5 : w.heap.size + 1 + 1 + 1 + 1 + 1 < w3.heap.size := by omega
          try have lw3_w_6 : w.heap.size + 1 + 1 + 1 + 1 + 1 + 1 < w3.heap.size := by omega
          try have lw3_w1_0 : w1.heap.size < w3.heap.size := by omega
          try have lw3_w1_1 : w1.heap.size + 1 < w3.heap.size := by omega
          try have lw3_w1_2 : w1.heap.size + 1 + 1 < w3.heap.size := by omega
          try have lw3_w1_3 : w1.heap.size + 1 + 1 + 1 < w3.heap.size := by omega
          try have lw3_w1_4 : w1.heap.size + 1 + 1 + 1 + 1 < w3.heap.size := by omega
          try have lw3_w1_5 : w1.heap.size + 1 + 1 + 1 + 1 + 1 < w3.heap.size := by omega
          try have lw3_w1_6 : w1.heap.size + 1 + 1 + 1 + 1 + 1 + 1 < w3.heap.size := by omega
          try have lw3_w2_0 : w2.heap.size < w3.heap.size := by omega
          try have lw3_w2_1 : w2.heap.size + 1 < w3.heap.size := by omega
          try have lw3_w2_2 : w2.heap.size + 1 + 1 < w3.heap.size := by omega
          try have lw3_w2_3 : w2.heap.size + 1 + 1 + 1 < w3.heap.size := by omega
          try have lw3_w2_4 : w2.heap.size + 1 + 1 + 1 + 1 < w3.heap.size := by omega
          try have lw3_w2_5 : w2.heap.size + 1 + 1 + 1 + 1 + 1 < w3.heap.size := by omega
          try have lw3_w2_6 : w2.heap.size + 1 + 1 + 1 + 1 + 1 + 1 < w3.heap.size := by omega
          go_wp2_with fail
          go_call (span_yes) as e w4 ⟨rfl, bw4⟩
          obtain ⟨sw4, zw4, cw4, fw4⟩ := bcell bw4
          try simp only [World.size_alloc, World.size_setCell, World.size_drew] at sw4
          try have lw4_w_0 : w.heap.size < w4.heap.size := by omega
          try have lw4_w_1 : w.heap.size + 1 < w4.heap.size := by omega
          try have lw4_w_2 : w.heap.size + 1 + 1 < w4.heap.size := by omega
          try have lw4_w_3 : w.heap.size + 1 + 1 + 1 < w4.heap.size := by omega
          try have lw4_w_4 : w.heap.size + 1 + 1 + 1 + 1 < w4.heap.size := by omega
          try have lw4_w_5 : w.heap.size + 1 + 1 + 1 + 1 + 1 < w4.heap.size := by omega
          try have lw4_w_6 : w.heap.size + 1 + 1 + 1 + 1 + 1 + 1 < w4.heap.size := by omega
          try have lw4_w1_0 : w1.heap.size < w4.heap.size := by omega
          try have lw4_w1_1 : w1.heap.size + 1 < w4.heap.size := by omega
          try have lw4_w1_2 : w1.heap.size + 1 + 1 < w4.heap.size := by omega
          try have lw4_w1_3 : w1.heap.size + 1 + 1 + 1 < w4.heap.size := by omega
          try have lw4_w1_4 : w1.heap.size + 1 + 1 + 1 + 1 < w4.heap.size := by omega
          try have lw4_w1_5 : w1.heap.size + 1 + 1 + 1 + 1 + 1 < w4.heap.size := by omega
          try have lw4_w1_6 : w1.heap.size + 1 + 1 + 1 + 1 + 1 + 1 < w4.heap.size := by omega
          try have lw4_w2_0 : w2.heap.size < w4.heap.size := by omega
          try have lw4_w2_1 : w2.heap.size + 1 < w4.heap.size := by omega
          try have lw4_w2_2 : w2.heap.size + 1 + 1 < w4.heap.size := by omega
          try have lw4_w2_3 : w2.heap.size + 1 + 1 + 1 < w4.heap.size := by omega
          try have lw4_w2_4 : w2.heap.size + 1 + 1 + 1 + 1 < w4.heap.size := by omega
          try have lw4_w2_5 : w2.heap.size + 1 + 1 + 1 + 1 + 1 < w4.heap.size := by omega
          try have lw4_w2_6 : w2.heap.size + 1 + 1 + 1 + 1 + 1 + 1 < w4.heap.size := by omega
          try have lw4_w3_0 : w3.heap.size < w4.heap.size := by omega
          try have lw4_w3_1 : w3.heap.size + 1 < w4.heap.size := by omega
          try have lw4_w3_2 : w3.heap.size + 1 + 1 < w4.heap.size := by omega
          try have lw4_w3_3 : w3.heap.size + 1 + 1 + 1 < w4.heap.size := by omega
          try have lw4_w3_4 : w3.heap.size + 1 + 1 + 1 + 1 < w4.heap.size := by omega
          try have lw4_w3_5 : w3.heap.size + 1 + 1 + 1 + 1 + 1 < w4.heap.size := by omega
          try have lw4_w3_6 : w3.heap.size + 1 + 1 + 1 + 1 + 1 + 1 < w4.heap.size := by omega
          go_wp2_with fail
          go_ret
          exact ⟨ret_bool (by (rw [Bool.eq_iff_iff]; (try simp only [Bool.and_eq_true, Bool.or_eq_true, Bool.not_eq_true, decide_eq_true_eq, beq_iff_eq, beq_eq_false_iff_ne, ne_eq, decide_eq_false_iff_not, Bool.true_and, Bool.and_true, Bool.false_eq_true, true_and, and_true, false_iff, iff_false, true_iff, iff_true, false_and, and_false]); (try omega))), by (repeat (first | (with_reducible exact Below.refl _ _) | (with_reducible refine Ext.drewN ?_ _) | (with_reducible refine Below.drew ?_) | (with_reducible refine Ext.alloc ?_ _) | (with_reducible refine Ext.setCell ?_ (by simp; try omega) _) | (with_reducible refine Ext.trans ?_ (by assumption)) | (with_reducible assumption) | exact Below.refl _ _))⟩
        · have g2' : ¬ 0 < lo2 d s - hi2 b q := by omega
          go_enter Tryd.func24, Tryd.ntmps24
          go_wp2_with fail
          go_call (specValidRect_any) as e w1 ⟨rfl, bw1⟩
          obtain ⟨sw1, zw1, cw1, fw1⟩ := bcell bw1
          try simp only [World.size_alloc, World.size_setCell, World.size_drew] at sw1
          try have lw1_w_0 : w.heap.size < w1.heap.size := by omega
          try have lw1_w_1 : w.heap.size + 1 < w1.heap.size := by omega
          try have lw1_w_2 : w.heap.size + 1 + 1 < w1.heap.size := by omega
          try have lw1_w_3 : w.heap.size + 1 + 1 + 1 < w1.heap.size := by omega
          try have lw1_w_4 : w.heap.size + 1 + 1 + 1 + 1 < w1.heap.size := by omega
          try have lw1_w_5 : w.heap.size + 1 + 1 + 1 + 1 + 1 < w1.heap.size := by omega
          try have lw1_w_6 : w.heap.size + 1 + 1 + 1 + 1 + 1 + 1 < w1.heap.size := by omega
          rw [h1]
          go_wp2_with fail
          go_call (specValidRect_any) as e w2 ⟨rfl, bw2⟩
          obtain ⟨sw2, zw2, cw2, fw2⟩ := bcell bw2
          try simp only [World.size_alloc, World.size_setCell, World.size_drew] at sw2
          try have lw2_w_0 : w.heap.size < w2.heap.size := by omega
          try have lw2_w_1 : w.heap.size + 1 < w2.heap.size := by omega
          try have lw2_w_2 : w.heap.size + 1 + 1 < w2.heap.size := by omega
          try have lw2_w_3 : w.heap.size + 1 + 1 + 1 < w2.heap.size := by omega
          try have lw2_w_4 : w.heap.size + 1 + 1 + 1 + 1 < w2.heap.size := by omega
          try have lw2_w_5 : w.heap.size + 1 + 1 + 1 + 1 + 1 < w2.heap.size := by omega
          try have lw2_w_6 : w.heap.size + 1 + 1 + 1 + 1 + 1 + 1 < w2.heap.size := by omega
          try have lw2_w1_0 : w1.heap.size < w2.heap.size := by omega
          try have lw2_w1_1 : w1.heap.size + 1 < w2.heap.size := by omega
          try have lw2_w1_2 : w1.heap.size + 1 + 1 < w2.heap.size := by omega
          try have lw2_w1_3 : w1.heap.size + 1 + 1 + 1 < w2.heap.size := by omega
          try have lw2_w1_4 : w1.heap.size + 1 + 1 + 1 + 1 < w2.heap.size := by omega
          try have lw2_w1_5 : w1.heap.size + 1 + 1 + 1 + 1 + 1 < w2.heap.size := by omega
          try have lw2_w1_6 : w1.heap.size + 1 + 1 + 1 + 1 + 1 + 1 < w2.heap.size := by omega
          rw [h2]
          go_wp2_with fail
          go_call (span_yes) as e w3 ⟨rfl, bw3⟩
          obtain ⟨sw3, zw3, cw3, fw3⟩ := bcell bw3
          try simp only [World.size_alloc, World.size_setCell, World.size_drew] at sw3
          try have lw3_w_0 : w.heap.size < w3.heap.size := by omega
          try have lw3_w_1 : w.heap.size + 1 < w3.heap.size := by omega
          try have lw3_w_2 : w.heap.size + 1 + 1 < w3.heap.size := by omega
          try have lw3_w_3 : w.heap.size + 1 + 1 + 1 < w3.heap.size := by omega
          try have lw3_w_4 : w.heap.size + 1 + 1 + 1 + 1 < w3.heap.size := by omega
          try have lw3_w_5 : w.heap.size + 1 + 1 + 1 + 1 + 1 < w3.heap.size := by omega
          try have lw3_w_6 : w.heap.size + 1 + 1 + 1 + 1 + 1 + 1 < w3.heap.size := by omega
          try have lw3_w1_0 : w1.heap.size < w3.heap.size := by omega
          try have lw3_w1_1 : w1.heap.size + 1 < w3.heap.size := by omega
          try have lw3_w1_2 : w1.heap.size + 1 + 1 < w3.heap.size := by omega
          try have lw3_w1_3 : w1.heap.size + 1 + 1 + 1 < w3.heap.size := by omega
          try have lw3_w1_4 : w1.heap.size + 1 + 1 + 1 + 1 < w3.heap.size := by omega
          try have lw3_w1_5 : w1.heap.size + 1 + 1 + 1 + 1 + 1 < w3.heap.size := by omega
          try have lw3_w1_6 : w1.heap.size + 1 + 1 + 1 + 1 + 1 + 1 < w3.heap.size := by omega
          try have lw3_w2_0 : w2.heap.size < w3.heap.size := by omega
          try have lw3_w2_1 : w2.heap.size + 1 < w3.heap.size := by omega
          try have lw3_w2_2 : w2.heap.size + 1 + 1 < w3.heap.size := by omega
          try have lw3_w2_3 : w2.heap.size + 1 + 1 + 1 < w3.heap.size := by omega
          try have lw3_w2_4 : w2.heap.size + 1 + 1 + 1 + 1 < w3.heap.size := by omega
          try have lw3_w2_5 : w2.heap.size + 1 + 1 + 1 + 1 + 1 < w3.heap.size := by omega
          try have lw3_w2_6 : w2.heap.size + 1 + 1 + 1 + 1 + 1 + 1 < w3.heap.size := by omega
          go_wp2_with fail
          go_call (span_yes) as e w4 ⟨rfl, bw4⟩
          obtain ⟨sw4, zw4, cw4, fw4⟩ := bcell bw4
          try simp only [World.size_alloc, World.size_setCell, World.size_drew] at sw4
          try have lw4_w_0 : w.heap.size < w4.heap.size := by omega
          try have lw4_w_1 : w.heap.size + 1 < w4.heap.size := by omega
          try have lw4_w_2 : w.heap.size + 1 + 1 < w4.heap.size := by omega
          try have lw4_w_3 : w.heap.size + 1 + 1 + 1 < w4.heap.size := by omega
          try have lw4_w_4 : w.heap.size + 1 + 1 + 1 + 1 < w4.heap.size := by omega
          try have lw4_w_5 : w.heap.size + 1 + 1 + 1 + 1 + 1 < w4.heap.size := by omega
          try have lw4_w_6 : w.heap.size + 1 + 1 + 1 + 1 + 1 + 1 < w4.heap.size := by omega
          try have lw4_w1_0 : w1.heap.size < w4.heap.size := by omega
          try have lw4_w1_1 : w1.heap.size + 1 < w4.heap.size := by omega
          try have lw4_w1_2 : w1.heap.size + 1 + 1 < w4.heap.size := by omega
          try have lw4_w1_3 : w1.heap.size + 1 + 1 + 1 < w4.heap.size := by omega
          try have lw4_w1_4 : w1.heap.size + 1 + 1 + 1 + 1 < w4.heap.size := by omega
          try have lw4_w1_5 : w1.heap.size + 1 + 1 + 1 + 1 + 1 < w4.heap.size := by omega
          try have lw4_w1_6 : w1.heap.size + 1 + 1 + 1 + 1 + 1 + 1 < w4.heap.size := by omega
          try have lw4_w2_0 : w2.heap.size < w4.heap.size := by omega
          try have lw4_w2_1 : w2.heap.size + 1 < w4.heap.size := by omega
          try have lw4_w2_2 : w2.heap.size + 1 + 1 < w4.heap.size := by omega
          try have lw4_w2_3 : w2.heap.size + 1 + 1 + 1 < w4.heap.size := by omega
          try have lw4_w2_4 : w2.heap.size + 1 + 1 + 1 + 1 < w4.heap.size := by omega
          try have lw4_w2_5 : w2.heap.size + 1 + 1 + 1 + 1 + 1 < w4.heap.size := by omega
          try have lw4_w2_6 : w2.heap.size + 1 + 1 + 1 + 1 + 1 + 1 < w4.heap.size := by omega
          try have lw4_w3_0 : w3.heap.size < w4.heap.size := by omega
          try have lw4_w3_1 : w3.heap.size + 1 < w4.heap.size := by omega
          try have lw4_w3_2 : w3.heap.size + 1 + 1 < w4.heap.size := by omega
          try have lw4_w3_3 : w3.heap.size + 1 + 1 + 1 < w4.heap.size := by omega
          try have lw4_w3_4 : w3.heap.size + 1 + 1 + 1 + 1 < w4.heap.size := by omega
          try have lw4_w3_5 : w3.heap.size + 1 + 1 + 1 + 1 + 1 < w4.heap.size := by omega
          try have lw4_w3_6 : w3.heap.size + 1 + 1 + 1 + 1 + 1 + 1 < w4.heap.size := by omega
          go_wp2_with fail
          go_ret
          exact ⟨ret_bool (by (rw [Bool.eq_iff_iff]; (try simp only [Bool.and_eq_true, Bool.or_eq_true, Bool.not_eq_true, decide_eq_true_eq, beq_iff_eq, beq_eq_false_iff_ne, ne_eq, decide_eq_false_iff_not, Bool.true_and, Bool.and_true, Bool.false_eq_true, true_and, and_true, false_iff, iff_false, true_iff, iff_true, false_and, and_false]); (try omega))), by (repeat (first | (with_reducible exact Below.refl _ _) | (with_reducible refine Ext.drewN ?_ _) | (with_reducible refine Below.drew ?_) | (with_reducible refine Ext.alloc ?_ _) | (with_reducible refine Ext.setCell ?_ (by simp; try omega) _) | (with_reducible refine Ext.trans ?_ (by assumption)) | (with_reducible assumption) | exact Below.refl _ _))⟩
      · have g1' : ¬ 0 < lo2 c r - hi2 a p := by omega
        go_enter Tryd.func24, Tryd.ntmps24
        go_wp2_with fail
        go_call (specValidRect_any) as e w1 ⟨rfl, bw1⟩
        obtain ⟨sw1, zw1, cw1, fw1⟩ := bcell bw1
        try simp only [World.size_alloc, World.size_setCell, World.size_drew] at sw1
        try have lw1_w_0 : w.heap.size < w1.heap.size := by omega
        try have lw1_w_1 : w.heap.size + 1 < w1.heap.size := by omega
        try have lw1_w_2 : w.heap.size + 1 + 1 < w1.heap.size := by omega
        try have lw1_w_3 : w.heap.size + 1 + 1 + 1 < w1.heap.size := by omega
        try have lw1_w_4 : w.heap.size + 1 + 1 + 1 + 1 < w1.heap.size := by omega
        try have lw1_w_5 : w.heap.size + 1 + 1 + 1 + 1 + 1 < w1.heap.size := by omega
        try have lw1_w_6 : w.heap.size + 1 + 1 + 1 + 1 + 1 + 1 < w1.heap.size := by omega
        rw [h1]
        go_wp2_with fail
        go_call (specValidRect_any) as e w2 ⟨rfl, bw2⟩
        obtain ⟨sw2, zw2, cw2, fw2⟩ := bcell bw2
        try simp only [World.size_alloc, World.size_setCell, World.size_drew] at sw2
        try have lw2_w_0 : w.heap.size < w2.heap.size := by omega
        try have lw2_w_1 : w.heap.size + 1 < w2.heap.size := by omega
        try have lw2_w_2 : w.heap.size + 1 + 1 < w2.heap.size := by omega
        try have lw2_w_3 : w.heap.size + 1 + 1 + 1 < w2.heap.size := by omega
        try have lw2_w_4 : w.heap.size + 1 + 1 + 1 + 1 < w2.heap.size := by omega
        try have lw2_w_5 : w.heap.size + 1 + 1 + 1 + 1 + 1 < w2.heap.size := by omega
        try have lw2_w_6 : w.heap.size + 1 + 1 + 1 + 1 + 1 + 1 < w2.heap.size := by omega
        try have lw2_w1_0 : w1.heap.size < w2.heap.size := by omega
        try have lw2_w1_1 : w1.heap.size + 1 < w2.heap.size := by omega
        try have lw2_w1_2 : w1.heap.size + 1 + 1 < w2.heap.size := by omega
        try have lw2_w1_3 : w1.heap.size + 1 + 1 + 1 < w2.heap.size := by omega
        try have lw2_w1_4 : w1.heap.size + 1 + 1 + 1 + 1 < w2.heap.size := by omega
        try have lw2_w1_5 : w1.heap.size + 1 + 1 + 1 + 1 + 1 < w2.heap.size := by omega
        try have lw2_w1_6 : w1.heap.size + 1 + 1 + 1 + 1 + 1 + 1 < w2.heap.size := by omega
        rw [h2]
        go_wp2_with fail
        go_call (span_yes) as e w3 ⟨rfl, bw3⟩
        obtain ⟨sw3, zw3, cw3, fw3⟩ := bcell bw3
        try simp only [World.size_alloc, World.size_setCell, World.size_drew] at sw3
        try have lw3_w_0 : w.heap.size < w3.heap.size := by omega
        try have lw3_w_1 : w.heap.size + 1 < w3.heap.size := by omega
        try have lw3_w_2 : w.heap.size + 1 + 1 < w3.heap.size := by omega
        try have lw3_w_3 : w.heap.size + 1 + 1 + 1 < w3.heap.size := by omega
        try have lw3_w_4 : w.heap.size + 1 + 1 + 1 + 1 < w3.heap.size := by omega
        try have lw3_w_5 : w.heap.size + 1 + 1 + 1 + 1 + 1 < w3.heap.size := by omega
        try have lw3_w_6 : w.heap.size + 1 + 1 + 1 + 1 + 1 + 1 < w3.heap.size := by omega
        try have lw3_w1_0 : w1.heap.size < w3.heap.size := by omega
        try have lw3_w1_1 : w1.heap.size + 1 < w3.heap.size := by omega
        try have lw3_w1_2 : w1.heap.size + 1 + 1 < w3.heap.size := by omega
        try have lw3_w1_3 : w1.heap.size + 1 + 1 + 1 < w3.heap.size := by omega
        try have lw3_w1_4 : w1.heap.size + 1 + 1 + 1 + 1 < w3.heap.size := by omega
        try have lw3_w1_5 : w1.heap.size + 1 + 1 + 1 + 1 + 1 < w3.heap.size := by omega
        try have lw3_w1_6 : w1.heap.size + 1 + 1 + 1 + 1 + 1 + 1 < w3.heap.size := by omega
        try have lw3_w2_0 : w2.heap.size < w3.heap.size := by omega
        try have lw3_w2_1 : w2.heap.size + 1 < w3.heap.size := by omega
        try have lw3_w2_2 : w2.heap.size + 1 + 1 < w3.heap.size := by omega
        try have lw3_w2_3 : w2.heap.size + 1 + 1 + 1 < w3.heap.size := by omega
        try have lw3_w2_4 : w2.heap.size + 1 + 1 + 1 + 1 < w3.heap.size := by omega
        try have lw3_w2_5 : w2.heap.size + 1 + 1 + 1 + 1 + 1 < w3.heap.size := by omega
        try have lw3_w2_6 : w2.heap.size + 1 + 1 + 1 + 1 + 1 + 1 < w3.heap.size := by omega
        go_wp2_with fail
        go_ret
        exact ⟨ret_bool (by (rw [Bool.eq_iff_iff]; (try simp only [Bool.and_eq_true, Bool.or_eq_true, Bool.not_eq_true, decide_eq_true_eq, beq_iff_eq, beq_eq_false_iff_ne, ne_eq, decide_eq_false_iff_not, Bool.true_and, Bool.and_true, Bool.false_eq_true, true_and, and_true, false_iff, iff_false, true_iff, iff_true, false_and, and_false]); (try omega))), by (repeat (first | (with_reducible exact Below.refl _ _) | (with_reducible refine Ext.drewN ?_ _) | (with_reducible refine Below.drew ?_) | (with_reducible refine Ext.alloc ?_ _) | (with_reducible refine Ext.setCell ?_ (by simp; try omega) _) | (with_reducible refine Ext.trans ?_ (by assumption)) | (with_reducible assumption) | exact Below.refl _ _))⟩

def ixV (a b c d p q r s : Int) : Value := .tuple #[.agg #[.int .i64 (if ovB a b c d p q r s = true then hi2 a p else 0), .int .i64 (if ovB a b c d p q r s = true then hi2 b q else 0), .int .i64 (if ovB a b c d p q r s = true then lo2 c r else 0), .int .i64 (if ovB a b c d p q r s = true then lo2 d s else 0)], .bool (ovB a b c d p q r s)]
theorem ixV_no {a b c d p q r s : Int} (h : ovB a b c d p q r s = false) : ixV a b c d p q r s = .tuple #[.agg #[.int .i64 0, .int .i64 0, .int .i64 0, .int .i64 0], .bool false] := by simp [ixV, h]
theorem ixV_yes {a b c d p q r s : Int} (h : ovB a b c d p q r s = true) : ixV a b c d p q r s = .tuple #[.agg #[.int .i64 (hi2 a p), .int .i64 (hi2 b q), .int .i64 (lo2 c r), .int .i64 (lo2 d s)], .bool true] := by simp [ixV, h]

theorem ret_ix {a b c d p q r s : Int} {v : Bool} (h0 : a = p) (h1 : b = q) (h2 : c = r) (h3 : d = s) : Ending.returned (.tuple #[.agg #[.int .i64 a, .int .i64 b, .int .i64 c, .int .i64 d], .bool v]) = .returned (.tuple #[.agg #[.int .i64 p, .int .i64 q, .int .i64 r, .int .i64 s], .bool v]) := by rw [h0, h1, h2, h3]
theorem areValid2_any (a b c d p q r s : Int) (v : Bool) (m : Option Addr) (cap : Nat) (w : World) (hC : ChipW w) (hv : (rvB a b c d && rvB p q r s) = v) (hR : RectsIs w.heap.size w m 2 (pick a p) (pick b q) (pick c r) (pick d s)) :
    Calls Tryd.prog 72 #[.slice m 2 cap] w fun e w' => e = .returned (.bool v) ∧ Below w.heap.size w w' := by
  have h := areValid_any m 2 cap (pick a p) (pick b q) (pick c r) (pick d s) w hC (by omega) hR
  rw [allV2, hv] at h
  exact h

set_option maxHeartbeats 4000000 in
theorem implIntersectRects_any (a b c d p q r s : Int) (w : World) (hC : ChipW w) : Calls Tryd.prog 29 #[.agg #[.int .i64 a, .int .i64 b, .int .i64 c, .int .i64 d], .agg #[.int .i64 p, .int .i64 q, .int .i64 r, .int .i64 s]] w fun e w' => e = .returned (ixV a b c d p q r s) ∧ Below w.heap.size w w' := by
  cases hv : (rvB a b c d && rvB p q r s) with
  | false =>
    rw [ixV_no (by unfold ovB; rw [← Bool.and_assoc, hv]; rfl)]
    go_enter Tryd.func29, Tryd.ntmps29
    go_wp2_with fail
    go_call (areValid2_any a b c d p q r s false _ _ _ (hC.ext (by (repeat (first | (with_reducible exact Below.refl _ _) | (with_reducible refine Ext.drewN ?_ _) | (with_reducible refine Below.drew ?_) | (with_reducible refine Ext.alloc ?_ _) | (with_reducible refine Ext.setCell ?_ (by simp; try omega) _) | (with_reducible refine Ext.trans ?_ (by assumption)) | (with_reducible assumption) | exact Below.refl _ _)))) hv (rects2 (by simp [go_sem]) (by simp [go_sem]) (by simp [go_sem]) (by simp [go_sem]) (by simp [go_sem]) (by simp [go_sem]) (by simp [go_sem]) (by simp [go_sem]))) as e w1 ⟨rfl, bw1⟩
    obtain ⟨sw1, zw1, cw1, fw1⟩ := bcell bw1
    try simp only [World.size_alloc, World.size_setCell, World.size_drew] at sw1
    try have lw1_w_0 : w.heap.size < w1.heap.size := by omega
    try have lw1_w_1 : w.heap.size + 1 < w1.heap.size := by omega
    try have lw1_w_2 : w.heap.size + 1 + 1 < w1.heap.size := by omega
    try have lw1_w_3 : w.heap.size + 1 + 1 + 1 < w1.heap.size := by omega
    try have lw1_w_4 : w.heap.size + 1 + 1 + 1 + 1 < w1.heap.size := by omega
    try have lw1_w_5 : w.heap.size + 1 + 1 + 1 + 1 + 1 < w1.heap.size := by omega
    try have lw1_w_6 : w.heap.size + 1 + 1 + 1 + 1 + 1 + 1 < w1.heap.size := by omega
    go_wp2_with fail
    refine bodyPost_ret (v := .tuple #[.agg #[.int .i64 0, .int .i64 0, .int .i64 0, .int .i64 0], .bool false]) (by simp [*, results, Tryd.results29, go_sem]) rfl ⟨rfl, ?_⟩
    (repeat (first | (with_reducible exact Below.refl _ _) | (with_reducible refine Ext.drewN ?_ _) | (with_reducible refine Below.drew ?_) | (with_reducible refine Ext.alloc ?_ _) | (with_reducible refine Ext.setCell ?_ (by simp; try omega) _) | (with_reducible refine Ext.trans ?_ (by assumption)) | (with_reducible assumption) | exact Below.refl _ _))
  | true =>
    have hv' := hv
    rw [Bool.and_eq_true] at hv'
    obtain ⟨h1, h2⟩ := hv'
    cases ho : decide (hi2 a p < lo2 c r ∧ hi2 b q < lo2 d s) with
    | false =>
      rw [ixV_no (by simp [ovB, ho])]
      go_enter Tryd.func29, Tryd.ntmps29
      go_wp2_with fail
      go_call (areValid2_any a b c d p q r s true _ _ _ (hC.ext (by (repeat (first | (with_reducible exact Below.refl _ _) | (with_reducible refine Ext.drewN ?_ _) | (with_reducible refine Below.drew ?_) | (with_reducible refine Ext.alloc ?_ _) | (with_reducible refine Ext.setCell ?_ (by simp; try omega) _) | (with_reducible refine Ext.trans ?_ (by assumption)) | (with_reducible assumption) | exact Below.refl _ _)))) hv (rects2 (by simp [go_sem]) (by simp [go_sem]) (by simp [go_sem]) (by simp [go_sem]) (by simp [go_sem]) (by simp [go_sem]) (by simp [go_sem]) (by simp [go_sem]))) as e w1 ⟨rfl, bw1⟩
      obtain ⟨sw1, zw1, cw1, fw1⟩ := bcell bw1
      try simp only [World.size_alloc, World.size_setCell, World.size_drew] at sw1
      try have lw1_w_0 : w.heap.size < w1.heap.size := by omega
      try have lw1_w_1 : w.heap.size + 1 < w1.heap.size := by omega
      try have lw1_w_2 : w.heap.size + 1 + 1 < w1.heap.size := by omega
      try have lw1_w_3 : w.heap.size + 1 + 1 + 1 < w1.heap.size := by omega
      try have lw1_w_4 : w.heap.size + 1 + 1 + 1 + 1 < w1.heap.size := by omega
      try have lw1_w_5 : w.heap.size + 1 + 1 + 1 + 1 + 1 < w1.heap.size := by omega
      try have lw1_w_6 : w.heap.size + 1 + 1 + 1 + 1 + 1 + 1 < w1.heap.size := by omega
      go_wp2_with fail
      go_call (meet_any a b c d p q r s) as e w2 ⟨rfl, bw2⟩
      obtain ⟨sw2, zw2, cw2, fw2⟩ := bcell bw2
      try simp only [World.size_alloc, World.size_setCell, World.size_drew] at sw2
      try have lw2_w_0 : w.heap.size < w2.heap.size := by omega
      try have lw2_w_1 : w.heap.size + 1 < w2.heap.size := by omega
      try have lw2_w_2 : w.heap.size + 1 + 1 < w2.heap.size := by omega
      try have lw2_w_3 : w.heap.size + 1 + 1 + 1 < w2.heap.size := by omega
      try have lw2_w_4 : w.heap.size + 1 + 1 + 1 + 1 < w2.heap.size := by omega
      try have lw2_w_5 : w.heap.size + 1 + 1 + 1 + 1 + 1 < w2.heap.size := by omega
      try have lw2_w_6 : w.heap.size + 1 + 1 + 1 + 1 + 1 + 1 < w2.heap.size := by omega
      try have lw2_w1_0 : w1.heap.size < w2.heap.size := by omega
      try have lw2_w1_1 : w1.heap.size + 1 < w2.heap.size := by omega
      try have lw2_w1_2 : w1.heap.size + 1 + 1 < w2.heap.size := by omega
      try have lw2_w1_3 : w1.heap.size + 1 + 1 + 1 < w2.heap.size := by omega
      try have lw2_w1_4 : w1.heap.size + 1 + 1 + 1 + 1 < w2.heap.size := by omega
      try have lw2_w1_5 : w1.heap.size + 1 + 1 + 1 + 1 + 1 < w2.heap.size := by omega
      try have lw2_w1_6 : w1.heap.size + 1 + 1 + 1 + 1 + 1 + 1 < w2.heap.size := by omega
      go_wp2_with fail
      go_call (implValidRect_any _ _ _ _ _ (hC.ext (by (repeat (first | (with_reducible exact Below.refl _ _) | (with_reducible refine Ext.drewN ?_ _) | (with_reducible refine Below.drew ?_) | (with_reducible refine Ext.alloc ?_ _) | (with_reducible refine Ext.setCell ?_ (by simp; try omega) _) | (with_reducible refine Ext.trans ?_ (by assumption)) | (with_reducible assumption) | exact Below.refl _ _))))) as e w3 ⟨rfl, bw3⟩
      obtain ⟨sw3, zw3, cw3, fw3⟩ := bcell bw3
      try simp only [World.size_alloc, World.size_setCell, World.size_drew] at sw3
      try have lw3_w_0 : w.heap.size < w3.heap.size := by omega
      try have lw3_w_1 : w.heap.size + 1 < w3.heap.size := by omega
      try have lw3_w_2 : w.heap.size + 1 + 1 < w3.heap.size := by omega
      try have lw3_w_3 : w.heap.size + 1 + 1 + 1 < w3.heap.size := by omega
      try have lw3_w_4 : w.heap.size + 1 + 1 + 1 + 1 < w3.heap.size := by omega
      try have lw3_w_5 : w.heap.size + 1 + 1 + 1 + 1 + 1 < w3.heap.size := by omega
      try have lw3_w_6 : w.heap.size + 1 + 1 + 1 + 1 + 1 + 1 < w3.heap.size := by omega
      try have lw3_w1_0 : w1.heap.size < w3.heap.size := by omega
      try have lw3_w1_1 : w1.heap.size + 1 < w3.heap.size := by omega
      try have lw3_w1_2 : w1.heap.size + 1 + 1 < w3.heap.size := by omega
      try have lw3_w1_3 : w1.heap.size + 1 + 1 + 1 < w3.heap.size := by omega
      try have lw3_w1_4 : w1.heap.size + 1 + 1 + 1 + 1 < w3.heap.size := by omega
      try have lw3_w1_5 : w1.heap.size + 1 + 1 + 1 + 1 + 1 < w3.heap.size := by omega
      try have lw3_w1_6 : w1.heap.size + 1 + 1 + 1 + 1 + 1 + 1 < w3.heap.size := by omega
      try have lw3_w2_0 : w2.heap.size < w3.heap.size := by omega
      try have lw3_w2_1 : w2.heap.size + 1 < w3.heap.size := by omega
      try have lw3_w2_2 : w2.heap.size + 1 + 1 < w3.heap.size := by omega
      try have lw3_w2_3 : w2.heap.size + 1 + 1 + 1 < w3.heap.size := by omega
      try have lw3_w2_4 : w2.heap.size + 1 + 1 + 1 + 1 < w3.heap.size := by omega
      try have lw3_w2_5 : w2.heap.size + 1 + 1 + 1 + 1 + 1 < w3.heap.size := by omega
      try have lw3_w2_6 : w2.heap.size + 1 + 1 + 1 + 1 + 1 + 1 < w3.heap.size := by omega
      rw [ov_meet h1 h2, ho]
      go_wp2_with fail
      refine bodyPost_ret (v := .tuple #[.agg #[.int .i64 0, .int .i64 0, .int .i64 0, .int .i64 0], .bool false]) (by simp [*, results, Tryd.results29, go_sem]) rfl ⟨rfl, ?_⟩
      (repeat (first | (with_reducible exact Below.refl _ _) | (with_reducible refine Ext.drewN ?_ _) | (with_reducible refine Below.drew ?_) | (with_reducible refine Ext.alloc ?_ _) | (with_reducible refine Ext.setCell ?_ (by simp; try omega) _) | (with_reducible refine Ext.trans ?_ (by assumption)) | (with_reducible assumption) | exact Below.refl _ _))
    | true =>
      rw [ixV_yes (by simp [ovB, ho, h1, h2])]
      go_enter Tryd.func29, Tryd.ntmps29
      go_wp2_with fail
      go_call (areValid2_any a b c d p q r s true _ _ _ (hC.ext (by (repeat (first | (with_reducible exact Below.refl _ _) | (with_reducible refine Ext.drewN ?_ _) | (with_reducible refine Below.drew ?_) | (with_reducible refine Ext.alloc ?_ _) | (with_reducible refine Ext.setCell ?_ (by simp; try omega) _) | (with_reducible refine Ext.trans ?_ (by assumption)) | (with_reducible assumption) | exact Below.refl _ _)))) hv (rects2 (by simp [go_sem]) (by simp [go_sem]) (by simp [go_sem]) (by simp [go_sem]) (by simp [go_sem]) (by simp [go_sem]) (by simp [go_sem]) (by simp [go_sem]))) as e w1 ⟨rfl, bw1⟩
      obtain ⟨sw1, zw1, cw1, fw1⟩ := bcell bw1
      try simp only [World.size_alloc, World.size_setCell, World.size_drew] at sw1
      try have lw1_w_0 : w.heap.size < w1.heap.size := by omega
      try have lw1_w_1 : w.heap.size + 1 < w1.heap.size := by omega
      try have lw1_w_2 : w.heap.size + 1 + 1 < w1.heap.size := by omega
      try have lw1_w_3 : w.heap.size + 1 + 1 + 1 < w1.heap.size := by omega
      try have lw1_w_4 : w.heap.size + 1 + 1 + 1 + 1 < w1.heap.size := by omega
      try have lw1_w_5 : w.heap.size + 1 + 1 + 1 + 1 + 1 < w1.heap.size := by omega
      try have lw1_w_6 : w.heap.size + 1 + 1 + 1 + 1 + 1 + 1 < w1.heap.size := by omega
      go_wp2_with fail
      go_call (meet_any a b c d p q r s) as e w2 ⟨rfl, bw2⟩
      obtain ⟨sw2, zw2, cw2, fw2⟩ := bcell bw2
      try simp only [World.size_alloc, World.size_setCell, World.size_drew] at sw2
      try have lw2_w_0 : w.heap.size < w2.heap.size := by omega
      try have lw2_w_1 : w.heap.size + 1 < w2.heap.size := by omega
      try have lw2_w_2 : w.heap.size + 1 + 1 < w2.heap.size := by omega
      try have lw2_w_3 : w.heap.size + 1 + 1 + 1 < w2.heap.size := by omega
      try have lw2_w_4 : w.heap.size + 1 + 1 + 1 + 1 < w2.heap.size := by omega
      try have lw2_w_5 : w.heap.size + 1 + 1 + 1 + 1 + 1 < w2.heap.size := by omega
      try have lw2_w_6 : w.heap.size + 1 + 1 + 1 + 1 + 1 + 1 < w2.heap.size := by omega
      try have lw2_w1_0 : w1.heap.size < w2.heap.size := by omega
      try have lw2_w1_1 : w1.heap.size + 1 < w2.heap.size := by omega
      try have lw2_w1_2 : w1.heap.size + 1 + 1 < w2.heap.size := by omega
      try have lw2_w1_3 : w1.heap.size + 1 + 1 + 1 < w2.heap.size := by omega
      try have lw2_w1_4 : w1.heap.size + 1 + 1 + 1 + 1 < w2.heap.size := by omega
      try have lw2_w1_5 : w1.heap.size + 1 + 1 + 1 + 1 + 1 < w2.heap.size := by omega
      try have lw2_w1_6 : w1.heap.size + 1 + 1 + 1 + 1 + 1 + 1 < w2.heap.size := by omega
      go_wp2_with fail
      go_call (implValidRect_any _ _ _ _ _ (hC.ext (by (repeat (first | (with_reducible exact Below.refl _ _) | (with_reducible refine Ext.drewN ?_ _) | (with_reducible refine Below.drew ?_) | (with_reducible refine Ext.alloc ?_ _) | (with_reducible refine Ext.setCell ?_ (by simp; try omega) _) | (with_reducible refine Ext.trans ?_ (by assumption)) | (with_reducible assumption) | exact Below.refl _ _))))) as e w3 ⟨rfl, bw3⟩
      obtain ⟨sw3, zw3, cw3, fw3⟩ := bcell bw3
      try simp only [World.size_alloc, World.size_setCell, World.size_drew] at sw3
      try have lw3_w_0 : w.heap.size < w3.heap.size := by omega
      try have lw3_w_1 : w.heap.size + 1 < w3.heap.size := by omega
      try have lw3_w_2 : w.heap.size + 1 + 1 < w3.heap.size := by omega
      try have lw3_w_3 : w.heap.size + 1 + 1 + 1 < w3.heap.size := by omega
      try have lw3_w_4 : w.heap.size + 1 + 1 + 1 + 1 < w3.heap.size := by omega
      try have lw3_w_5 : w.heap.size + 1 + 1 + 1 + 1 + 1 < w3.heap.size := by omega
      try have lw3_w_6 : w.heap.size + 1 + 1 + 1 + 1 + 1 + 1 < w3.heap.size := by omega
      try have lw3_w1_0 : w1.heap.size < w3.heap.size := by omega
      try have lw3_w1_1 : w1.heap.size + 1 < w3.heap.size := by omega
      try have lw3_w1_2 : w1.heap.size + 1 + 1 < w3.heap.size := by omega
      try have lw3_w1_3 : w1.heap.size + 1 + 1 + 1 < w3.heap.size := by omega
      try have lw3_w1_4 : w1.heap.size + 1 + 1 + 1 + 1 < w3.heap.size := by omega
      try have lw3_w1_5 : w1.heap.size + 1 + 1 + 1 + 1 + 1 < w3.heap.size := by omega
      try have lw3_w1_6 : w1.heap.size + 1 + 1 + 1 + 1 + 1 + 1 < w3.heap.size := by omega
      try have lw3_w2_0 : w2.heap.size < w3.heap.size := by omega
      try have lw3_w2_1 : w2.heap.size + 1 < w3.heap.size := by omega
      try have lw3_w2_2 : w2.heap.size + 1 + 1 < w3.heap.size := by omega
      try have lw3_w2_3 : w2.heap.size + 1 + 1 + 1 < w3.heap.size := by omega
      try have lw3_w2_4 : w2.heap.size + 1 + 1 + 1 + 1 < w3.heap.size := by omega
      try have lw3_w2_5 : w2.heap.size + 1 + 1 + 1 + 1 + 1 < w3.heap.size := by omega
      try have lw3_w2_6 : w2.heap.size + 1 + 1 + 1 + 1 + 1 + 1 < w3.heap.size := by omega
      rw [ov_meet h1 h2, ho]
      go_wp2_with fail
      refine bodyPost_ret (v := .tuple #[.agg #[.int .i64 (hi2 a p), .int .i64 (hi2 b q), .int .i64 (lo2 c r), .int .i64 (lo2 d s)], .bool true]) (by simp [*, results, Tryd.results29, go_sem]) rfl ⟨rfl, ?_⟩
      (repeat (first | (with_reducible exact Below.refl _ _) | (with_reducible refine Ext.drewN ?_ _) | (with_reducible refine Below.drew ?_) | (with_reducible refine Ext.alloc ?_ _) | (with_reducible refine Ext.setCell ?_ (by simp; try omega) _) | (with_reducible refine Ext.trans ?_ (by assumption)) | (with_reducible assumption) | exact Below.refl _ _))

theorem implRectsOverlap_any (a b c d p q r s : Int) (w : World) (hC : ChipW w) : Calls Tryd.prog 25 #[.agg #[.int .i64 a, .int .i64 b, .int .i64 c, .int .i64 d], .agg #[.int .i64 p, .int .i64 q, .int .i64 r, .int .i64 s]] w fun e w' => e = .returned (.bool (ovB a b c d p q r s)) ∧ Below w.heap.size w w' := by
  cases ho : ovB a b c d p q r s with
  | false =>
    go_enter Tryd.func25, Tryd.ntmps25
    go_wp2_with fail
    go_call (implIntersectRects_any _ _ _ _ _ _ _ _ _ (hC.ext (by (repeat (first | (with_reducible exact Below.refl _ _) | (with_reducible refine Ext.drewN ?_ _) | (with_reducible refine Below.drew ?_) | (with_reducible refine Ext.alloc ?_ _) | (with_reducible refine Ext.setCell ?_ (by simp; try omega) _) | (with_reducible refine Ext.trans ?_ (by assumption)) | (with_reducible assumption) | exact Below.refl _ _))))) as e w1 ⟨rfl, bw1⟩
    obtain ⟨sw1, zw1, cw1, fw1⟩ := bcell bw1
    try simp only [World.size_alloc, World.size_setCell, World.size_drew] at sw1
    try have lw1_w_0 : w.heap.size < w1.heap.size := by omega
    try have lw1_w_1 : w.heap.size + 1 < w1.heap.size := by omega
    try have lw1_w_2 : w.heap.size + 1 + 1 < w1.heap.size := by omega
    try have lw1_w_3 : w.heap.size + 1 + 1 + 1 < w1.heap.size := by omega
    try have lw1_w_4 : w.heap.size + 1 + 1 + 1 + 1 < w1.heap.size := by omega
    try have lw1_w_5 : w.heap.size + 1 + 1 + 1 + 1 + 1 < w1.heap.size := by omega
    try have lw1_w_6 : w.heap.size + 1 + 1 + 1 + 1 + 1 + 1 < w1.heap.size := by omega
    rw [ixV_no ho]
    go_wp2_with fail
    go_ret
    exact ⟨rfl, by (repeat (first | (with_reducible exact Below.refl _ _) | (with_reducible refine Ext.drewN ?_ _) | (with_reducible refine Below.drew ?_) | (with_reducible refine Ext.alloc ?_ _) | (with_reducible refine Ext.setCell ?_ (by simp; try omega) _) | (with_reducible refine Ext.trans ?_ (by assumption)) | (with_reducible assumption) | exact Below.refl _ _))⟩
  | true =>
    go_enter Tryd.func25, Tryd.ntmps25
    go_wp2_with fail
    go_call (implIntersectRects_any _ _ _ _ _ _ _ _ _ (hC.ext (by (repeat (first | (with_reducible exact Below.refl _ _) | (with_reducible refine Ext.drewN ?_ _) | (with_reducible refine Below.drew ?_) | (with_reducible refine Ext.alloc ?_ _) | (with_reducible refine Ext.setCell ?_ (by simp; try omega) _) | (with_reducible refine Ext.trans ?_ (by assumption)) | (with_reducible assumption) | exact Below.refl _ _))))) as e w1 ⟨rfl, bw1⟩
    obtain ⟨sw1, zw1, cw1, fw1⟩ := bcell bw1
    try simp only [World.size_alloc, World.size_setCell, World.size_drew] at sw1
    try have lw1_w_0 : w.heap.size < w1.heap.size := by omega
    try have lw1_w_1 : w.heap.size + 1 < w1.heap.size := by omega
    try have lw1_w_2 : w.heap.size + 1 + 1 < w1.heap.size := by omega
    try have lw1_w_3 : w.heap.size + 1 + 1 + 1 < w1.heap.size := by omega
    try have lw1_w_4 : w.heap.size + 1 + 1 + 1 + 1 < w1.heap.size := by omega
    try have lw1_w_5 : w.heap.size + 1 + 1 + 1 + 1 + 1 < w1.heap.size := by omega
    try have lw1_w_6 : w.heap.size + 1 + 1 + 1 + 1 + 1 + 1 < w1.heap.size := by omega
    rw [ixV_yes ho]
    go_wp2_with fail
    go_ret
    exact ⟨rfl, by (repeat (first | (with_reducible exact Below.refl _ _) | (with_reducible refine Ext.drewN ?_ _) | (with_reducible refine Below.drew ?_) | (with_reducible refine Ext.alloc ?_ _) | (with_reducible refine Ext.setCell ?_ (by simp; try omega) _) | (with_reducible refine Ext.trans ?_ (by assumption)) | (with_reducible assumption) | exact Below.refl _ _))⟩

set_option maxHeartbeats 4000000 in
theorem specIntersectRects_any (a b c d p q r s : Int) (w : World) : Calls Tryd.prog 28 #[.agg #[.int .i64 a, .int .i64 b, .int .i64 c, .int .i64 d], .agg #[.int .i64 p, .int .i64 q, .int .i64 r, .int .i64 s]] w fun e w' => e = .returned (ixV a b c d p q r s) ∧ Below w.heap.size w w' := by
  cases ho : ovB a b c d p q r s with
  | false =>
    rw [ixV_no ho]
    go_enter Tryd.func28, Tryd.ntmps28
    go_wp2_with fail
    go_call (specRectsOverlap_any) as e w1 ⟨rfl, bw1⟩
    obtain ⟨sw1, zw1, cw1, fw1⟩ := bcell bw1
    try simp only [World.size_alloc, World.size_setCell, World.size_drew] at sw1
    try have lw1_w_0 : w.heap.size < w1.heap.size := by omega
    try have lw1_w_1 : w.heap.size + 1 < w1.heap.size := by omega
    try have lw1_w_2 : w.heap.size + 1 + 1 < w1.heap.size := by omega
    try have lw1_w_3 : w.heap.size + 1 + 1 + 1 < w1.heap.size := by omega
    try have lw1_w_4 : w.heap.size + 1 + 1 + 1 + 1 < w1.heap.size := by omega
    try have lw1_w_5 : w.heap.size + 1 + 1 + 1 + 1 + 1 < w1.heap.size := by omega
    try have lw1_w_6 : w.heap.size + 1 + 1 + 1 + 1 + 1 + 1 < w1.heap.size := by omega
    rw [ho]
    go_wp2_with fail
    refine bodyPost_ret (v := .tuple #[.agg #[.int .i64 0, .int .i64 0, .int .i64 0, .int .i64 0], .bool false]) (by simp [*, results, Tryd.results28, go_sem]) rfl ⟨rfl, ?_⟩
    (repeat (first | (with_reducible exact Below.refl _ _) | (with_reducible refine Ext.drewN ?_ _) | (with_reducible refine Below.drew ?_) | (with_reducible refine Ext.alloc ?_ _) | (with_reducible refine Ext.setCell ?_ (by simp; try omega) _) | (with_reducible refine Ext.trans ?_ (by assumption)) | (with_reducible assumption) | exact Below.refl _ _))
  | true =>
    rw [ixV_yes ho]
    go_enter Tryd.func28, Tryd.ntmps28
    go_wp2_with fail
    go_call (specRectsOverlap_any) as e w1 ⟨rfl, bw1⟩
    obtain ⟨sw1, zw1, cw1, fw1⟩ := bcell bw1
    try simp only [World.size_alloc, World.size_setCell, World.size_drew] at sw1
    try have lw1_w_0 : w.heap.size < w1.heap.size := by omega
    try have lw1_w_1 : w.heap.size + 1 < w1.heap.size := by omega
    try have lw1_w_2 : w.heap.size + 1 + 1 < w1.heap.size := by omega
    try have lw1_w_3 : w.heap.size + 1 + 1 + 1 < w1.heap.size := by omega
    try have lw1_w_4 : w.heap.size + 1 + 1 + 1 + 1 < w1.heap.size := by omega
    try have lw1_w_5 : w.heap.size + 1 + 1 + 1 + 1 + 1 < w1.heap.size := by omega
    try have lw1_w_6 : w.heap.size + 1 + 1 + 1 + 1 + 1 + 1 < w1.heap.size := by omega
    rw [ho]
    go_wp2_with fail
    all_goals
      refine bodyPost_ret (v := .tuple #[.agg #[.int .i64 _, .int .i64 _, .int .i64 _, .int .i64 _], .bool true]) (by simp [*, results, Tryd.results28, go_sem]; exact ⟨rfl, rfl, rfl, rfl⟩) rfl ⟨ret_ix ?_ ?_ ?_ ?_, by (repeat (first | (with_reducible exact Below.refl _ _) | (with_reducible refine Ext.drewN ?_ _) | (with_reducible refine Below.drew ?_) | (with_reducible refine Ext.alloc ?_ _) | (with_reducible refine Ext.setCell ?_ (by simp; try omega) _) | (with_reducible refine Ext.trans ?_ (by assumption)) | (with_reducible assumption) | exact Below.refl _ _))⟩
      · unfold hi2; split <;> omega
      · unfold hi2; split <;> omega
      · unfold lo2; split <;> omega
      · unfold lo2; split <;> omega
end Go.Proofs.YtdcddneanbplpaaDoor
