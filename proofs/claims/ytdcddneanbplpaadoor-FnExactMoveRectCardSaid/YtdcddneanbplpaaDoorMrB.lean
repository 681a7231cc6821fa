/- MoveRect: the program's. Condition: the variable orientationMatrices holds its table. -/
import Derived.Test.YtdcddneanbplpaaDoorMrA
namespace Go.Proofs.YtdcddneanbplpaaDoor
open Go.RowKit
set_option linter.unusedVariables false
set_option linter.unusedSimpArgs false
attribute [local go_sem ↓] Go.wp_at_zero Go.wp_at_succ

theorem lo2_min (p q : Int) : lo2 p q = min p q := by unfold lo2; split <;> omega
theorem hi2_max (p q : Int) : hi2 p q = max p q := by unfold hi2; split <;> omega
theorem tImage_is (n : Nat) (x y a b : Int) (w : World) (ho : n < 8) (hM : Mats w) (hx : -1000 ≤ x) (hx' : x ≤ 1000) (hy : -1000 ≤ y) (hy' : y ≤ 1000) (ha : -1000 ≤ a) (ha' : a ≤ 1000) (hb : -1000 ≤ b) (hb' : b ≤ 1000) :
    Calls Tryd.prog 79 #[.agg #[.int .i64 n, .int .i64 x, .int .i64 y], .agg #[.int .i64 a, .int .i64 b]] w fun e w' => e = .returned (.agg #[.int .i64 (mvX n x y a b), .int .i64 (mvY n x y a b)]) ∧ Below w.heap.size w w' := tImage_any n x y a b w ho hM hx hx' hy hy' ha ha' hb hb'

set_option maxHeartbeats 4000000 in
theorem implMoveRect_any (o x y a b c d : Int) (w : World) (hC : ChipW w) (hM : Mats w) : Calls Tryd.prog 40 #[.agg #[.int .i64 o, .int .i64 x, .int .i64 y], .agg #[.int .i64 a, .int .i64 b, .int .i64 c, .int .i64 d]] w fun e w' => e = .returned (mvV o x y a b c d) ∧ Below w.heap.size w w' := by
  have hms := hM.size
  have hmz := hM.ne
  cases h1 : vldB o x y with
  | false =>
    rw [mvV_no (by simp [mvB, h1])]
    go_enter Tryd.func40, Tryd.ntmps40
    go_wp2_with fail
    go_call (implValid_any) as e w1 ⟨rfl, bw1⟩
    obtain ⟨sw1, zw1, cw1, fw1⟩ := bcell bw1
    try simp only [World.size_alloc, World.size_setCell, World.size_drew] at sw1
    try have lw1_w_0 : w.heap.size < w1.heap.size := by omega
    try have lw1_w_1 : w.heap.size + 1 < w1.heap.size := by omega
    try have lw1_w_2 : w.heap.size + 1 + 1 < w1.heap.size := by omega
    try have lw1_w_3 : w.heap.size + 1 + 1 + 1 < w1.heap.size := by omega
    try have lw1_w_4 : w.heap.size + 1 + 1 + 1 + 1 < w1.heap.size := by omega
    try have lw1_w_5 : w.heap.size + 1 + 1 + 1 + 1 + 1 < w1.heap.size := by omega
    try have lw1_w_6 : w.heap.size + 1 + 1 + 1 + 1 + 1 + 1 < w1.heap.size := by omega
    rw [h1]
    go_wp2_with fail
    refine bodyPost_ret (v := .tuple #[.agg #[.int .i64 0, .int .i64 0, .int .i64 0, .int .i64 0], .bool false]) (by simp [*, results, Tryd.results40, go_sem]) rfl ⟨rfl, ?_⟩
    (repeat (first | (with_reducible exact Below.refl _ _) | (with_reducible refine Ext.drewN ?_ _) | (with_reducible refine Below.drew ?_) | (with_reducible refine Ext.alloc ?_ _) | (with_reducible refine Ext.setCell ?_ (by simp; try omega) _) | (with_reducible refine Ext.trans ?_ (by assumption)) | (with_reducible assumption) | exact Below.refl _ _))
  | true =>
    cases h2 : rvB a b c d with
    | false =>
      rw [mvV_no (by simp [mvB, h2])]
      go_enter Tryd.func40, Tryd.ntmps40
      go_wp2_with fail
      go_call (implValid_any) as e w1 ⟨rfl, bw1⟩
      obtain ⟨sw1, zw1, cw1, fw1⟩ := bcell bw1
      try simp only [World.size_alloc, World.size_setCell, World.size_drew] at sw1
      try have lw1_w_0 : w.heap.size < w1.heap.size := by omega
      try have lw1_w_1 : w.heap.size + 1 < w1.heap.size := by omega
      try have lw1_w_2 : w.heap.size + 1 + 1 < w1.heap.size := by omega
      try have lw1_w_3 : w.heap.size + 1 + 1 + 1 < w1.heap.size := by omega
      try have lw1_w_4 : w.heap.size + 1 + 1 + 1 + 1 < w1.heap.size := by omega
      try have lw1_w_5 : w.heap.size + 1 + 1 + 1 + 1 + 1 < w1.heap.size := by omega
      try have lw1_w_6 : w.heap.size + 1 + 1 + 1 + 1 + 1 + 1 < w1.heap.size := by omega
      rw [h1]
      go_wp2_with fail
      go_call (implValidRect_any _ _ _ _ _ (hC.ext (by (repeat (first | (with_reducible exact Below.refl _ _) | (with_reducible refine Ext.drewN ?_ _) | (with_reducible refine Below.drew ?_) | (with_reducible refine Ext.alloc ?_ _) | (with_reducible refine Ext.setCell ?_ (by simp; try omega) _) | (with_reducible refine Ext.trans ?_ (by assumption)) | (with_reducible assumption) | exact Below.refl _ _))))) as e w2 ⟨rfl, bw2⟩
      obtain ⟨sw2, zw2, cw2, fw2⟩ := bcell bw2
      try simp only [World.size_alloc, World.size_setCell, World.size_drew] at sw2
      try have lw2_w_0 : w.heap.size < w2.heap.size := by omega
      try have lw2_w_1 : w.heap.size + 1 < w2.heap.size := by omega
      try have lw2_w_2 : w.heap.size + 1 + 1 < w2.heap.size := by omega
      try have lw2_w_3 : w.heap.size + 1 + 1 + 1 < w2.heap.size := by omega
      try have lw2_w_4 : w.heap.size + 1 + 1 + 1 + 1 < w2.heap.size := by omega
      try have lw2_w_5 : w.heap.size + 1 + 1 + 1 + 1 + 1 < w2.heap.size := by omega
      try have lw2_w_6 : w.heap.size + 1 + 1 + 1 + 1 + 1 + 1 < w2.heap.size := by omega
      try have lw2_w1_0 : w1.heap.size < w2.heap.size := by omega
      try have lw2_w1_1 : w1.heap.size + 1 < w2.heap.size := by omega
      try have lw2_w1_2 : w1.heap.size + 1 + 1 < w2.heap.size := by omega
      try have lw2_w1_3 : w1.heap.size + 1 + 1 + 1 < w2.heap.size := by omega
      try have lw2_w1_4 : w1.heap.size + 1 + 1 + 1 + 1 < w2.heap.size := by omega
      try have lw2_w1_5 : w1.heap.size + 1 + 1 + 1 + 1 + 1 < w2.heap.size := by omega
      try have lw2_w1_6 : w1.heap.size + 1 + 1 + 1 + 1 + 1 + 1 < w2.heap.size := by omega
      rw [h2]
      go_wp2_with fail
      refine bodyPost_ret (v := .tuple #[.agg #[.int .i64 0, .int .i64 0, .int .i64 0, .int .i64 0], .bool false]) (by simp [*, results, Tryd.results40, go_sem]) rfl ⟨rfl, ?_⟩
      (repeat (first | (with_reducible exact Below.refl _ _) | (with_reducible refine Ext.drewN ?_ _) | (with_reducible refine Below.drew ?_) | (with_reducible refine Ext.alloc ?_ _) | (with_reducible refine Ext.setCell ?_ (by simp; try omega) _) | (with_reducible refine Ext.trans ?_ (by assumption)) | (with_reducible assumption) | exact Below.refl _ _))
    | true =>
      obtain ⟨⟨i1, i2⟩, ⟨i3, i4⟩, i5, i6⟩ := vldB_t h1
      obtain ⟨j1, j2, j3, j4, j5, j6⟩ := rvB_t h2
      obtain ⟨n, rfl⟩ : ∃ n : Nat, o = n := ⟨o.toNat, by omega⟩
      have hn8 : n < 8 := by omega
      have hlo : ∀ p q : Int, (if q < p then q else p) = lo2 p q := fun _ _ => rfl
      have hhi : ∀ p q : Int, (if p < q then q else p) = hi2 p q := fun _ _ => rfl
      cases h3 : rvB (mr0 n x y a b c d) (mr1 n x y a b c d) (mr2 n x y a b c d) (mr3 n x y a b c d) with
      | false =>
        rw [mvV_no (by simp [mvB, h3])]
        unfold mr0 mr1 mr2 mr3 at h3
        have h3' := h3
        simp only [lo2_min, hi2_max] at h3'
        go_enter Tryd.func40, Tryd.ntmps40
        go_wp2_with fail
        go_call (implValid_any) as e w1 ⟨rfl, bw1⟩
        obtain ⟨sw1, zw1, cw1, fw1⟩ := bcell bw1
        try simp only [World.size_alloc, World.size_setCell, World.size_drew] at sw1
        try have lw1_w_0 : w.heap.size < w1.heap.size := by omega
        try have lw1_w_1 : w.heap.size + 1 < w1.heap.size := by omega
        try have lw1_w_2 : w.heap.size + 1 + 1 < w1.heap.size := by omega
        try have lw1_w_3 : w.heap.size + 1 + 1 + 1 < w1.heap.size := by omega
        try have lw1_w_4 : w.heap.size + 1 + 1 + 1 + 1 < w1.heap.size := by omega
        try have lw1_w_5 : w.heap.size + 1 + 1 + 1 + 1 + 1 < w1.heap.size := by omega
        try have lw1_w_6 : w.heap.size + 1 + 1 + 1 + 1 + 1 + 1 < w1.heap.size := by omega
        rw [h1]
        go_wp2_with fail
        go_call (implValidRect_any _ _ _ _ _ (hC.ext (by (repeat (first | (with_reducible exact Below.refl _ _) | (with_reducible refine Ext.drewN ?_ _) | (with_reducible refine Below.drew ?_) | (with_reducible refine Ext.alloc ?_ _) | (with_reducible refine Ext.setCell ?_ (by simp; try omega) _) | (with_reducible refine Ext.trans ?_ (by assumption)) | (with_reducible assumption) | exact Below.refl _ _))))) as e w2 ⟨rfl, bw2⟩
        obtain ⟨sw2, zw2, cw2, fw2⟩ := bcell bw2
        try simp only [World.size_alloc, World.size_setCell, World.size_drew] at sw2
        try have lw2_w_0 : w.heap.size < w2.heap.size := by omega
        try have lw2_w_1 : w.heap.size + 1 < w2.heap.size := by omega
        try have lw2_w_2 : w.heap.size + 1 + 1 < w2.heap.size := by omega
        try have lw2_w_3 : w.heap.size + 1 + 1 + 1 < w2.heap.size := by omega
        try have lw2_w_4 : w.heap.size + 1 + 1 + 1 + 1 < w2.heap.size := by omega
        try have lw2_w_5 : w.heap.size + 1 + 1 + 1 + 1 + 1 < w2.heap.size := by omega
        try have lw2_w_6 : w.heap.size + 1 + 1 + 1 + 1 + 1 + 1 < w2.heap.size := by omega
        try have lw2_w1_0 : w1.heap.size < w2.heap.size := by omega
        try have lw2_w1_1 : w1.heap.size + 1 < w2.heap.size := by omega
        try have lw2_w1_2 : w1.heap.size + 1 + 1 < w2.heap.size := by omega
        try have lw2_w1_3 : w1.heap.size + 1 + 1 + 1 < w2.heap.size := by omega
        try have lw2_w1_4 : w1.heap.size + 1 + 1 + 1 + 1 < w2.heap.size := by omega
        try have lw2_w1_5 : w1.heap.size + 1 + 1 + 1 + 1 + 1 < w2.heap.size := by omega
        try have lw2_w1_6 : w1.heap.size + 1 + 1 + 1 + 1 + 1 + 1 < w2.heap.size := by omega
        rw [h2]
        go_wp2_with fail
        go_call (tImage_is n x y a b _ hn8 (hM.below (by (repeat (first | (with_reducible exact Below.refl _ _) | (with_reducible refine Ext.drewN ?_ _) | (with_reducible refine Below.drew ?_) | (with_reducible refine Ext.alloc ?_ _) | (with_reducible refine Ext.setCell ?_ (by simp; try omega) _) | (with_reducible refine Ext.trans ?_ (by assumption)) | (with_reducible assumption) | exact Below.refl _ _))) hms) (by omega) (by omega) (by omega) (by omega) (by omega) (by omega) (by omega) (by omega)) as e w3 ⟨rfl, bw3⟩
        obtain ⟨sw3, zw3, cw3, fw3⟩ := bcell bw3
        try simp only [World.size_alloc, World.size_setCell, World.size_drew] at sw3
        try have lw3_w_0 : w.heap.size < w3.heap.size := by omega
        try have lw3_w_1 : w.heap.size + 1 < w3.heap.size := by omega
        try have lw3_w_2 : w.heap.size + 1 + 1 < w3.heap.size := by omega
        try have lw3_w_3 : w.heap.size + 1 + 1 + 1 < w3.heap.size := by omega
        try have lw3_w_4 : w.heap.size + 1 + 1 + 1 + 1 < w3.heap.size := by omega
        try have lw3_w_5 : w.heap.size + 1 + 1 + 1 + 1 + 1 < w3.heap.size := by omega
        try have lw3_w_6 : w.heap.size + 1 + 1 + 1 + 1 + 1 + 1 < w3.heap.size := by omega
        try have lw3_w1_0 : w1.heap.size < w3.heap.size := by omega
        try have lw3_w1_1 : w1.heap.size + 1 < w3.heap.size := by omega
        try have lw3_w1_2 : w1.heap.size + 1 + 1 < w3.heap.size := by omega
        try have lw3_w1_3 : w1.heap.size + 1 + 1 + 1 < w3.heap.size := by omega
        try have lw3_w1_4 : w1.heap.size + 1 + 1 + 1 + 1 < w3.heap.size := by omega
        try have lw3_w1_5 : w1.heap.size + 1 + 1 + 1 + 1 + 1 < w3.heap.size := by omega
        try have lw3_w1_6 : w1.heap.size + 1 + 1 + 1 + 1 + 1 + 1 < w3.heap.size := by omega
        try have lw3_w2_0 : w2.heap.size < w3.heap.size := by omega
        try have lw3_w2_1 : w2.heap.size + 1 < w3.heap.size := by omega
        try have lw3_w2_2 : w2.heap.size + 1 + 1 < w3.heap.size := by omega
        try have lw3_w2_3 : w2.heap.size + 1 + 1 + 1 < w3.heap.size := by omega
        try have lw3_w2_4 : w2.heap.size + 1 + 1 + 1 + 1 < w3.heap.size := by omega
        try have lw3_w2_5 : w2.heap.size + 1 + 1 + 1 + 1 + 1 < w3.heap.size := by omega
        try have lw3_w2_6 : w2.heap.size + 1 + 1 + 1 + 1 + 1 + 1 < w3.heap.size := by omega
        go_wp2_with fail
        go_call (tImage_is n x y c d _ hn8 (hM.below (by (repeat (first | (with_reducible exact Below.refl _ _) | (with_reducible refine Ext.drewN ?_ _) | (with_reducible refine Below.drew ?_) | (with_reducible refine Ext.alloc ?_ _) | (with_reducible refine Ext.setCell ?_ (by simp; try omega) _) | (with_reducible refine Ext.trans ?_ (by assumption)) | (with_reducible assumption) | exact Below.refl _ _))) hms) (by omega) (by omega) (by omega) (by omega) (by omega) (by omega) (by omega) (by omega)) as e w4 ⟨rfl, bw4⟩
        obtain ⟨sw4, zw4, cw4, fw4⟩ := bcell bw4
        try simp only [World.size_alloc, World.size_setCell, World.size_drew] at sw4
        try have lw4_w_0 : w.heap.size < w4.heap.size := by omega
        try have lw4_w_1 : w.heap.size + 1 < w4.heap.size := by omega
        try have lw4_w_2 : w.heap.size + 1 + 1 < w4.heap.size := by omega
        try have lw4_w_3 : w.heap.size + 1 + 1 + 1 < w4.heap.size := by omega
        try have lw4_w_4 : w.heap.size + 1 + 1 + 1 + 1 < w4.heap.size := by omega
        try have lw4_w_5 : w.heap.size + 1 + 1 + 1 + 1 + 1 < w4.heap.size := by omega
        try have lw4_w_6 : w.heap.size + 1 + 1 + 1 + 1 + 1 + 1 < w4.heap.size := by omega
        try have lw4_w1_0 : w1.heap.size < w4.heap.size := by omega
        try have lw4_w1_1 : w1.heap.size + 1 < w4.heap.size := by omega
        try have lw4_w1_2 : w1.heap.size + 1 + 1 < w4.heap.size := by omega
        try have lw4_w1_3 : w1.heap.size + 1 + 1 + 1 < w4.heap.size := by omega
        try have lw4_w1_4 : w1.heap.size + 1 + 1 + 1 + 1 < w4.heap.size := by omega
        try have lw4_w1_5 : w1.heap.size + 1 + 1 + 1 + 1 + 1 < w4.heap.size := by omega
        try have lw4_w1_6 : w1.heap.size + 1 + 1 + 1 + 1 + 1 + 1 < w4.heap.size := by omega
        try have lw4_w2_0 : w2.heap.size < w4.heap.size := by omega
        try have lw4_w2_1 : w2.heap.size + 1 < w4.heap.size := by omega
        try have lw4_w2_2 : w2.heap.size + 1 + 1 < w4.heap.size := by omega
        try have lw4_w2_3 : w2.heap.size + 1 + 1 + 1 < w4.heap.size := by omega
        try have lw4_w2_4 : w2.heap.size + 1 + 1 + 1 + 1 < w4.heap.size := by omega
        try have lw4_w2_5 : w2.heap.size + 1 + 1 + 1 + 1 + 1 < w4.heap.size := by omega
        try have lw4_w2_6 : w2.heap.size + 1 + 1 + 1 + 1 + 1 + 1 < w4.heap.size := by omega
        try have lw4_w3_0 : w3.heap.size < w4.heap.size := by omega
        try have lw4_w3_1 : w3.heap.size + 1 < w4.heap.size := by omega
        try have lw4_w3_2 : w3.heap.size + 1 + 1 < w4.heap.size := by omega
        try have lw4_w3_3 : w3.heap.size + 1 + 1 + 1 < w4.heap.size := by omega
        try have lw4_w3_4 : w3.heap.size + 1 + 1 + 1 + 1 < w4.heap.size := by omega
        try have lw4_w3_5 : w3.heap.size + 1 + 1 + 1 + 1 + 1 < w4.heap.size := by omega
        try have lw4_w3_6 : w3.heap.size + 1 + 1 + 1 + 1 + 1 + 1 < w4.heap.size := by omega
        go_wp2_with fail
        go_call (implValidRect_any _ _ _ _ _ (hC.ext (by (repeat (first | (with_reducible exact Below.refl _ _) | (with_reducible refine Ext.drewN ?_ _) | (with_reducible refine Below.drew ?_) | (with_reducible refine Ext.alloc ?_ _) | (with_reducible refine Ext.setCell ?_ (by simp; try omega) _) | (with_reducible refine Ext.trans ?_ (by assumption)) | (with_reducible assumption) | exact Below.refl _ _))))) as e w5 ⟨rfl, bw5⟩
        obtain ⟨sw5, zw5, cw5, fw5⟩ := bcell bw5
        try simp only [World.size_alloc, World.size_setCell, World.size_drew] at sw5
        try have lw5_w_0 : w.heap.size < w5.heap.size := by omega
        try have lw5_w_1 : w.heap.size + 1 < w5.heap.size := by omega
        try have lw5_w_2 : w.heap.size + 1 + 1 < w5.heap.size := by omega
        try have lw5_w_3 : w.heap.size + 1 + 1 + 1 < w5.heap.size := by omega
        try have lw5_w_4 : w.heap.size + 1 + 1 + 1 + 1 < w5.heap.size := by omega
        try have lw5_w_5 : w.heap.size + 1 + 1 + 1 + 1 + 1 < w5.heap.size := by omega
        try have lw5_w_6 : w.heap.size + 1 + 1 + 1 + 1 + 1 + 1 < w5.heap.size := by omega
        try have lw5_w1_0 : w1.heap.size < w5.heap.size := by omega
        try have lw5_w1_1 : w1.heap.size + 1 < w5.heap.size := by omega
        try have lw5_w1_2 : w1.heap.size + 1 + 1 < w5.heap.size := by omega
        try have lw5_w1_3 : w1.heap.size + 1 + 1 + 1 < w5.heap.size := by omega
        try have lw5_w1_4 : w1.heap.size + 1 + 1 + 1 + 1 < w5.heap.size := by omega
        try have lw5_w1_5 : w1.heap.size + 1 + 1 + 1 + 1 + 1 < w5.heap.size := by omega
        try have lw5_w1_6 : w1.heap.size + 1 + 1 + 1 + 1 + 1 + 1 < w5.heap.size := by omega
        try have lw5_w2_0 : w2.heap.size < w5.heap.size := by omega
        try have lw5_w2_1 : w2.heap.size + 1 < w5.heap.size := by omega
        try have lw5_w2_2 : w2.heap.size + 1 + 1 < w5.heap.size := by omega
        try have lw5_w2_3 : w2.heap.size + 1 + 1 + 1 < w5.heap.size := by omega
        try have lw5_w2_4 : w2.heap.size + 1 + 1 + 1 + 1 < w5.heap.size := by omega
        try have lw5_w2_5 : w2.heap.size + 1 + 1 + 1 + 1 + 1 < w5.heap.size := by omega
        try have lw5_w2_6 : w2.heap.size + 1 + 1 + 1 + 1 + 1 + 1 < w5.heap.size := by omega
        try have lw5_w3_0 : w3.heap.size < w5.heap.size := by omega
        try have lw5_w3_1 : w3.heap.size + 1 < w5.heap.size := by omega
        try have lw5_w3_2 : w3.heap.size + 1 + 1 < w5.heap.size := by omega
        try have lw5_w3_3 : w3.heap.size + 1 + 1 + 1 < w5.heap.size := by omega
        try have lw5_w3_4 : w3.heap.size + 1 + 1 + 1 + 1 < w5.heap.size := by omega
        try have lw5_w3_5 : w3.heap.size + 1 + 1 + 1 + 1 + 1 < w5.heap.size := by omega
        try have lw5_w3_6 : w3.heap.size + 1 + 1 + 1 + 1 + 1 + 1 < w5.heap.size := by omega
        try have lw5_w4_0 : w4.heap.size < w5.heap.size := by omega
        try have lw5_w4_1 : w4.heap.size + 1 < w5.heap.size := by omega
        try have lw5_w4_2 : w4.heap.size + 1 + 1 < w5.heap.size := by omega
        try have lw5_w4_3 : w4.heap.size + 1 + 1 + 1 < w5.heap.size := by omega
        try have lw5_w4_4 : w4.heap.size + 1 + 1 + 1 + 1 < w5.heap.size := by omega
        try have lw5_w4_5 : w4.heap.size + 1 + 1 + 1 + 1 + 1 < w5.heap.size := by omega
        try have lw5_w4_6 : w4.heap.size + 1 + 1 + 1 + 1 + 1 + 1 < w5.heap.size := by omega
        first | rw [h3] | rw [h3']
        go_wp2_with fail
        refine bodyPost_ret (v := .tuple #[.agg #[.int .i64 0, .int .i64 0, .int .i64 0, .int .i64 0], .bool false]) (by simp [*, results, Tryd.results40, go_sem]) rfl ⟨rfl, ?_⟩
        (repeat (first | (with_reducible exact Below.refl _ _) | (with_reducible refine Ext.drewN ?_ _) | (with_reducible refine Below.drew ?_) | (with_reducible refine Ext.alloc ?_ _) | (with_reducible refine Ext.setCell ?_ (by simp; try omega) _) | (with_reducible refine Ext.trans ?_ (by assumption)) | (with_reducible assumption) | exact Below.refl _ _))
      | true =>
        rw [mvV_yes (by simp [mvB, h1, h2, h3])]
        unfold mr0 mr1 mr2 mr3 at h3 ⊢
        have h3' := h3
        simp only [lo2_min, hi2_max] at h3'
        go_enter Tryd.func40, Tryd.ntmps40
        go_wp2_with fail
        go_call (implValid_any) as e w1 ⟨rfl, bw1⟩
        obtain ⟨sw1, zw1, cw1, fw1⟩ := bcell bw1
        try simp only [World.size_alloc, World.size_setCell, World.size_drew] at sw1
        try have lw1_w_0 : w.heap.size < w1.heap.size := by omega
        try have lw1_w_1 : w.heap.size + 1 < w1.heap.size := by omega
        try have lw1_w_2 : w.heap.size + 1 + 1 < w1.heap.size := by omega
        try have lw1_w_3 : w.heap.size + 1 + 1 + 1 < w1.heap.size := by omega
        try have lw1_w_4 : w.heap.size + 1 + 1 + 1 + 1 < w1.heap.size := by omega
        try have lw1_w_5 : w.heap.size + 1 + 1 + 1 + 1 + 1 < w1.heap.size := by omega
        try have lw1_w_6 : w.heap.size + 1 + 1 + 1 + 1 + 1 + 1 < w1.heap.size := by omega
        rw [h1]
        go_wp2_with fail
        go_call (implValidRect_any _ _ _ _ _ (hC.ext (by (repeat (first | (with_reducible exact Below.refl _ _) | (with_reducible refine Ext.drewN ?_ _) | (with_reducible refine Below.drew ?_) | (with_reducible refine Ext.alloc ?_ _) | (with_reducible refine Ext.setCell ?_ (by simp; try omega) _) | (with_reducible refine Ext.trans ?_ (by assumption)) | (with_reducible assumption) | exact Below.refl _ _))))) as e w2 ⟨rfl, bw2⟩
        obtain ⟨sw2, zw2, cw2, fw2⟩ := bcell bw2
        try simp only [World.size_alloc, World.size_setCell, World.size_drew] at sw2
        try have lw2_w_0 : w.heap.size < w2.heap.size := by omega
        try have lw2_w_1 : w.heap.size + 1 < w2.heap.size := by omega
        try have lw2_w_2 : w.heap.size + 1 + 1 < w2.heap.size := by omega
        try have lw2_w_3 : w.heap.size + 1 + 1 + 1 < w2.heap.size := by omega
        try have lw2_w_4 : w.heap.size + 1 + 1 + 1 + 1 < w2.heap.size := by omega
        try have lw2_w_5 : w.heap.size + 1 + 1 + 1 + 1 + 1 < w2.heap.size := by omega
        try have lw2_w_6 : w.heap.size + 1 + 1 + 1 + 1 + 1 + 1 < w2.heap.size := by omega
        try have lw2_w1_0 : w1.heap.size < w2.heap.size := by omega
        try have lw2_w1_1 : w1.heap.size + 1 < w2.heap.size := by omega
        try have lw2_w1_2 : w1.heap.size + 1 + 1 < w2.heap.size := by omega
        try have lw2_w1_3 : w1.heap.size + 1 + 1 + 1 < w2.heap.size := by omega
        try have lw2_w1_4 : w1.heap.size + 1 + 1 + 1 + 1 < w2.heap.size := by omega
        try have lw2_w1_5 : w1.heap.size + 1 + 1 + 1 + 1 + 1 < w2.heap.size := by omega
        try have lw2_w1_6 : w1.heap.size + 1 + 1 + 1 + 1 + 1 + 1 < w2.heap.size := by omega
        rw [h2]
        go_wp2_with fail
        go_call (tImage_is n x y a b _ hn8 (hM.below (by (repeat (first | (with_reducible exact Below.refl _ _) | (with_reducible refine Ext.drewN ?_ _) | (with_reducible refine Below.drew ?_) | (with_reducible refine Ext.alloc ?_ _) | (with_reducible refine Ext.setCell ?_ (by simp; try omega) _) | (with_reducible refine Ext.trans ?_ (by assumption)) | (with_reducible assumption) | exact Below.refl _ _))) hms) (by omega) (by omega) (by omega) (by omega) (by omega) (by omega) (by omega) (by omega)) as e w3 ⟨rfl, bw3⟩
        obtain ⟨sw3, zw3, cw3, fw3⟩ := bcell bw3
        try simp only [World.size_alloc, World.size_setCell, World.size_drew] at sw3
        try have lw3_w_0 : w.heap.size < w3.heap.size := by omega
        try have lw3_w_1 : w.heap.size + 1 < w3.heap.size := by omega
        try have lw3_w_2 : w.heap.size + 1 + 1 < w3.heap.size := by omega
        try have lw3_w_3 : w.heap.size + 1 + 1 + 1 < w3.heap.size := by omega
        try have lw3_w_4 : w.heap.size + 1 + 1 + 1 + 1 < w3.heap.size := by omega
        try have lw3_w_5 : w.heap.size + 1 + 1 + 1 + 1 + 1 < w3.heap.size := by omega
        try have lw3_w_6 : w.heap.size + 1 + 1 + 1 + 1 + 1 + 1 < w3.heap.size := by omega
        try have lw3_w1_0 : w1.heap.size < w3.heap.size := by omega
        try have lw3_w1_1 : w1.heap.size + 1 < w3.heap.size := by omega
        try have lw3_w1_2 : w1.heap.size + 1 + 1 < w3.heap.size := by omega
        try have lw3_w1_3 : w1.heap.size + 1 + 1 + 1 < w3.heap.size := by omega
        try have lw3_w1_4 : w1.heap.size + 1 + 1 + 1 + 1 < w3.heap.size := by omega
        try have lw3_w1_5 : w1.heap.size + 1 + 1 + 1 + 1 + 1 < w3.heap.size := by omega
        try have lw3_w1_6 : w1.heap.size + 1 + 1 + 1 + 1 + 1 + 1 < w3.heap.size := by omega
        try have lw3_w2_0 : w2.heap.size < w3.heap.size := by omega
        try have lw3_w2_1 : w2.heap.size + 1 < w3.heap.size := by omega
        try have lw3_w2_2 : w2.heap.size + 1 + 1 < w3.heap.size := by omega
        try have lw3_w2_3 : w2.heap.size + 1 + 1 + 1 < w3.heap.size := by omega
        try have lw3_w2_4 : w2.heap.size + 1 + 1 + 1 + 1 < w3.heap.size := by omega
        try have lw3_w2_5 : w2.heap.size + 1 + 1 + 1 + 1 + 1 < w3.heap.size := by omega
        try have lw3_w2_6 : w2.heap.size + 1 + 1 + 1 + 1 + 1 + 1 < w3.heap.size := by omega
        go_wp2_with fail
        go_call (tImage_is n x y c d _ hn8 (hM.below (by (repeat (first | (with_reducible exact Below.refl _ _) | (with_reducible refine Ext.drewN ?_ _) | (with_reducible refine Below.drew ?_) | (with_reducible refine Ext.alloc ?_ _) | (with_reducible refine Ext.setCell ?_ (by simp; try omega) _) | (with_reducible refine Ext.trans ?_ (by assumption)) | (with_reducible assumption) | exact Below.refl _ _))) hms) (by omega) (by omega) (by omega) (by omega) (by omega) (by omega) (by omega) (by omega)) as e w4 ⟨rfl, bw4⟩
        obtain ⟨sw4, zw4, cw4, fw4⟩ := bcell bw4
        try simp only [World.size_alloc, World.size_setCell, World.size_drew] at sw4
        try have lw4_w_0 : w.heap.size < w4.heap.size := by omega
        try have lw4_w_1 : w.heap.size + 1 < w4.heap.size := by omega
        try have lw4_w_2 : w.heap.size + 1 + 1 < w4.heap.size := by omega
        try have lw4_w_3 : w.heap.size + 1 + 1 + 1 < w4.heap.size := by omega
        try have lw4_w_4 : w.heap.size + 1 + 1 + 1 + 1 < w4.heap.size := by omega
        try have lw4_w_5 : w.heap.size + 1 + 1 + 1 + 1 + 1 < w4.heap.size := by omega
        try have lw4_w_6 : w.heap.size + 1 + 1 + 1 + 1 + 1 + 1 < w4.heap.size := by omega
        try have lw4_w1_0 : w1.heap.size < w4.heap.size := by omega
        try have lw4_w1_1 : w1.heap.size + 1 < w4.heap.size := by omega
        try have lw4_w1_2 : w1.heap.size + 1 + 1 < w4.heap.size := by omega
        try have lw4_w1_3 : w1.heap.size + 1 + 1 + 1 < w4.heap.size := by omega
        try have lw4_w1_4 : w1.heap.size + 1 + 1 + 1 + 1 < w4.heap.size := by omega
        try have lw4_w1_5 : w1.heap.size + 1 + 1 + 1 + 1 + 1 < w4.heap.size := by omega
        try have lw4_w1_6 : w1.heap.size + 1 + 1 + 1 + 1 + 1 + 1 < w4.heap.size := by omega
        try have lw4_w2_0 : w2.heap.size < w4.heap.size := by omega
        try have lw4_w2_1 : w2.heap.size + 1 < w4.heap.size := by omega
        try have lw4_w2_2 : w2.heap.size + 1 + 1 < w4.heap.size := by omega
        try have lw4_w2_3 : w2.heap.size + 1 + 1 + 1 < w4.heap.size := by omega
        try have lw4_w2_4 : w2.heap.size + 1 + 1 + 1 + 1 < w4.heap.size := by omega
        try have lw4_w2_5 : w2.heap.size + 1 + 1 + 1 + 1 + 1 < w4.heap.size := by omega
        try have lw4_w2_6 : w2.heap.size + 1 + 1 + 1 + 1 + 1 + 1 < w4.heap.size := by omega
        try have lw4_w3_0 : w3.heap.size < w4.heap.size := by omega
        try have lw4_w3_1 : w3.heap.size + 1 < w4.heap.size := by omega
        try have lw4_w3_2 : w3.heap.size + 1 + 1 < w4.heap.size := by omega
        try have lw4_w3_3 : w3.heap.size + 1 + 1 + 1 < w4.heap.size := by omega
        try have lw4_w3_4 : w3.heap.size + 1 + 1 + 1 + 1 < w4.heap.size := by omega
        try have lw4_w3_5 : w3.heap.size + 1 + 1 + 1 + 1 + 1 < w4.heap.size := by omega
        try have lw4_w3_6 : w3.heap.size + 1 + 1 + 1 + 1 + 1 + 1 < w4.heap.size := by omega
        go_wp2_with fail
        go_call (implValidRect_any _ _ _ _ _ (hC.ext (by (repeat (first | (with_reducible exact Below.refl _ _) | (with_reducible refine Ext.drewN ?_ _) | (with_reducible refine Below.drew ?_) | (with_reducible refine Ext.alloc ?_ _) | (with_reducible refine Ext.setCell ?_ (by simp; try omega) _) | (with_reducible refine Ext.trans ?_ (by assumption)) | (with_reducible assumption) | exact Below.refl _ _))))) as e w5 ⟨rfl, bw5⟩
        obtain ⟨sw5, zw5, cw5, fw5⟩ := bcell bw5
        try simp only [World.size_alloc, World.size_setCell, World.size_drew] at sw5
        try have lw5_w_0 : w.heap.size < w5.heap.size := by omega
        try have lw5_w_1 : w.heap.size + 1 < w5.heap.size := by omega
        try have lw5_w_2 : w.heap.size + 1 + 1 < w5.heap.size := by omega
        try have lw5_w_3 : w.heap.size + 1 + 1 + 1 < w5.heap.size := by omega
        try have lw5_w_4 : w.heap.size + 1 + 1 + 1 + 1 < w5.heap.size := by omega
        try have lw5_w_5 : w.heap.size + 1 + 1 + 1 + 1 + 1 < w5.heap.size := by omega
        try have lw5_w_6 : w.heap.size + 1 + 1 + 1 + 1 + 1 + 1 < w5.heap.size := by omega
        try have lw5_w1_0 : w1.heap.size < w5.heap.size := by omega
        try have lw5_w1_1 : w1.heap.size + 1 < w5.heap.size := by omega
        try have lw5_w1_2 : w1.heap.size + 1 + 1 < w5.heap.size := by omega
        try have lw5_w1_3 : w1.heap.size + 1 + 1 + 1 < w5.heap.size := by omega
        try have lw5_w1_4 : w1.heap.size + 1 + 1 + 1 + 1 < w5.heap.size := by omega
        try have lw5_w1_5 : w1.heap.size + 1 + 1 + 1 + 1 + 1 < w5.heap.size := by omega
        try have lw5_w1_6 : w1.heap.size + 1 + 1 + 1 + 1 + 1 + 1 < w5.heap.size := by omega
        try have lw5_w2_0 : w2.heap.size < w5.heap.size := by omega
        try have lw5_w2_1 : w2.heap.size + 1 < w5.heap.size := by omega
        try have lw5_w2_2 : w2.heap.size + 1 + 1 < w5.heap.size := by omega
        try have lw5_w2_3 : w2.heap.size + 1 + 1 + 1 < w5.heap.size := by omega
        try have lw5_w2_4 : w2.heap.size + 1 + 1 + 1 + 1 < w5.heap.size := by omega
        try have lw5_w2_5 : w2.heap.size + 1 + 1 + 1 + 1 + 1 < w5.heap.size := by omega
        try have lw5_w2_6 : w2.heap.size + 1 + 1 + 1 + 1 + 1 + 1 < w5.heap.size := by omega
        try have lw5_w3_0 : w3.heap.size < w5.heap.size := by omega
        try have lw5_w3_1 : w3.heap.size + 1 < w5.heap.size := by omega
        try have lw5_w3_2 : w3.heap.size + 1 + 1 < w5.heap.size := by omega
        try have lw5_w3_3 : w3.heap.size + 1 + 1 + 1 < w5.heap.size := by omega
        try have lw5_w3_4 : w3.heap.size + 1 + 1 + 1 + 1 < w5.heap.size := by omega
        try have lw5_w3_5 : w3.heap.size + 1 + 1 + 1 + 1 + 1 < w5.heap.size := by omega
        try have lw5_w3_6 : w3.heap.size + 1 + 1 + 1 + 1 + 1 + 1 < w5.heap.size := by omega
        try have lw5_w4_0 : w4.heap.size < w5.heap.size := by omega
        try have lw5_w4_1 : w4.heap.size + 1 < w5.heap.size := by omega
        try have lw5_w4_2 : w4.heap.size + 1 + 1 < w5.heap.size := by omega
        try have lw5_w4_3 : w4.heap.size + 1 + 1 + 1 < w5.heap.size := by omega
        try have lw5_w4_4 : w4.heap.size + 1 + 1 + 1 + 1 < w5.heap.size := by omega
        try have lw5_w4_5 : w4.heap.size + 1 + 1 + 1 + 1 + 1 < w5.heap.size := by omega
        try have lw5_w4_6 : w4.heap.size + 1 + 1 + 1 + 1 + 1 + 1 < w5.heap.size := by omega
        first | rw [h3] | rw [h3']
        go_wp2_with fail
        refine bodyPost_ret (v := .tuple #[.agg #[.int .i64 _, .int .i64 _, .int .i64 _, .int .i64 _], .bool true]) (by simp [*, results, Tryd.results40, go_sem]; try exact ⟨rfl, rfl, rfl, rfl⟩) rfl ⟨ret_ix ?_ ?_ ?_ ?_, ?_⟩
        · first | rfl | exact (lo2_min _ _).symm
        · first | rfl | exact (lo2_min _ _).symm
        · first | rfl | exact (hi2_max _ _).symm
        · first | rfl | exact (hi2_max _ _).symm
        · (repeat (first | (with_reducible exact Below.refl _ _) | (with_reducible refine Ext.drewN ?_ _) | (with_reducible refine Below.drew ?_) | (with_reducible refine Ext.alloc ?_ _) | (with_reducible refine Ext.setCell ?_ (by simp; try omega) _) | (with_reducible refine Ext.trans ?_ (by assumption)) | (with_reducible assumption) | exact Below.refl _ _))
theorem specMoveRect_out (o x y a b c d : Int) (w : World) : Calls Tryd.prog 38 #[.agg #[.int .i64 o, .int .i64 x, .int .i64 y], .agg #[.int .i64 a, .int .i64 b, .int .i64 c, .int .i64 d]] w fun e w' => e = .returned (.tuple #[.agg #[.int .i64 (mv0 o x y a b c d), .int .i64 (mv1 o x y a b c d), .int .i64 (mv2 o x y a b c d), .int .i64 (mv3 o x y a b c d)], .bool (mvB o x y a b c d)]) ∧ Below w.heap.size w w' := specMoveRect_any o x y a b c d w
theorem implMoveRect_out (o x y a b c d : Int) (w : World) (hC : ChipW w) (hM : Mats w) : Calls Tryd.prog 40 #[.agg #[.int .i64 o, .int .i64 x, .int .i64 y], .agg #[.int .i64 a, .int .i64 b, .int .i64 c, .int .i64 d]] w fun e w' => e = .returned (.tuple #[.agg #[.int .i64 (mv0 o x y a b c d), .int .i64 (mv1 o x y a b c d), .int .i64 (mv2 o x y a b c d), .int .i64 (mv3 o x y a b c d)], .bool (mvB o x y a b c d)]) ∧ Below w.heap.size w w' := implMoveRect_any o x y a b c d w hC hM
end Go.Proofs.YtdcddneanbplpaaDoor
