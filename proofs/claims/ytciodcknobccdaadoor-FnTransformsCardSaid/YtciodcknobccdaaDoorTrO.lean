/- InvertTransform: the model's and the program's. Condition: the variable orientationMatrices holds its table. -/
import Derived.Test.YtciodcknobccdaaDoorTrH
import Derived.Test.YtciodcknobccdaaDoorTrK
namespace Go.Proofs.YtciodcknobccdaaDoor
open Go.RowKit
set_option linter.unusedVariables false
set_option linter.unusedSimpArgs false
attribute [local go_sem ↓] Go.wp_at_zero Go.wp_at_succ

def it0 (o x y : Int) : Int := if vldB o x y = true then (invO o.toNat : Nat) else 0
def it1 (o x y : Int) : Int := if vldB o x y = true then tX (invO o.toNat : Nat) (-x) (-y) else 0
def it2 (o x y : Int) : Int := if vldB o x y = true then tY (invO o.toNat : Nat) (-x) (-y) else 0
theorem it_yes {o x y : Int} (h : vldB o x y = true) : it0 o x y = (invO o.toNat : Nat) ∧ it1 o x y = tX (invO o.toNat : Nat) (-x) (-y) ∧ it2 o x y = tY (invO o.toNat : Nat) (-x) (-y) := by
  simp [it0, it1, it2, h]
theorem it_no {o x y : Int} (h : vldB o x y = false) : it0 o x y = 0 ∧ it1 o x y = 0 ∧ it2 o x y = 0 := by
  simp [it0, it1, it2, h]
theorem cmp_inv : ∀ n k : Nat, n < 8 → k < 8 → (((cmpO n k : Nat) : Int) == 0) = decide (k = invO n) := by
  have h : ∀ n k : Fin 8, (((cmpO n k : Nat) : Int) == 0) = decide (k.1 = invO n) := by decide
  intro n k hn hk
  exact h ⟨n, hn⟩ ⟨k, hk⟩
def io (c k : Nat) (v : Int) : Int := if c < k then v else 0
theorem io_lt {c k : Nat} (h : c < k) (v : Int) : io c k v = v := if_pos h
theorem io_ge {c k : Nat} (h : ¬ c < k) (v : Int) : io c k v = 0 := if_neg h
theorem io_step {c k : Nat} (h : k ≠ c) (v : Int) : io c (k + 1) v = io c k v := by
  unfold io
  by_cases q : c < k
  · rw [if_pos q, if_pos (by omega)]
  · rw [if_neg q, if_neg (by omega)]

theorem implIT_out (o x y : Int) (w : World) (hM : Mats w) : Calls Tryd.prog 19 #[.agg #[.int .i64 o, .int .i64 x, .int .i64 y]] w fun e w' => e = .returned (.tuple #[.agg #[.int .i64 (it0 o x y), .int .i64 (it1 o x y), .int .i64 (it2 o x y)], .bool (vldB o x y)]) ∧ Below w.heap.size w w' := by
  cases h1 : vldB o x y with
  | false =>
    obtain ⟨m0, m1, m2⟩ := it_no h1
    rw [m0, m1, m2]
    clear m0 m1 m2
    go_enter Tryd.func19, Tryd.ntmps19
    go_wp2_with fail
    go_call (implValid_any) as e w1 ⟨rfl, bw1⟩
    obtain ⟨sw1, zw1, cw1, fw1⟩ := bcell bw1
    try simp only [World.size_alloc, World.size_setCell, World.size_drew] at sw1
    try have lw1_w_0 : w.heap.size < w1.heap.size := by omega
    try have lw1_w_1 : w.heap.size + 1 < w1.heap.size := by omega
    try have lw1_w_2 : w.heap.size + 1 + 1 < w1.heap.size := by omega
    try have lw1_w_3 : w.heap.size + 1 + 1 + 1 < w1.heap.size := by omega
    try have lw1_w_4 : w.heap.size + 1 + 1 + 1 + 1 < w1.heap.size := by omega
    try have lw1_w_5 : w.heap.size + 1 + 1 + 1 + 1 + 1 < w1.heap.size := by omega
    try have lw1_w_6 : w.heap.size + 1 + 1 + 1 + 1 + 1 + 1 < w1.heap.size := by omega
    rw [h1]
    go_wp2_with fail
    refine bodyPost_ret (v := .tuple #[.agg #[.int .i64 0, .int .i64 0, .int .i64 0], .bool false]) (by simp [*, results, Tryd.results19, go_sem]) rfl ⟨rfl, ?_⟩
    (repeat (first | (with_reducible exact Below.refl _ _) | (with_reducible refine Ext.drewN ?_ _) | (with_reducible refine Below.drew ?_) | (with_reducible refine Ext.alloc ?_ _) | (with_reducible refine Ext.setCell ?_ (by simp; try omega) _) | (with_reducible refine Ext.trans ?_ (by assumption)) | (with_reducible assumption) | exact Below.refl _ _))
  | true =>
    obtain ⟨m0, m1, m2⟩ := it_yes h1
    rw [m0, m1, m2]
    clear m0 m1 m2
    obtain ⟨⟨i1, i2⟩, ⟨i3, i4⟩, i5, i6⟩ := vldB_t h1
    obtain ⟨n, rfl⟩ : ∃ n : Nat, o = (n : Int) := ⟨o.toNat, by omega⟩
    simp only [Int.toNat_natCast]
    have hn8 : n < 8 := by omega
    have hi8 := invO_lt n hn8
    go_enter Tryd.func19, Tryd.ntmps19
    go_wp2_with fail
    go_call (implValid_any) as e w1 ⟨rfl, bw1⟩
    obtain ⟨sw1, zw1, cw1, fw1⟩ := bcell bw1
    try simp only [World.size_alloc, World.size_setCell, World.size_drew] at sw1
    try have lw1_w_0 : w.heap.size < w1.heap.size := by omega
    try have lw1_w_1 : w.heap.size + 1 < w1.heap.size := by omega
    try have lw1_w_2 : w.heap.size + 1 + 1 < w1.heap.size := by omega
    try have lw1_w_3 : w.heap.size + 1 + 1 + 1 < w1.heap.size := by omega
    try have lw1_w_4 : w.heap.size + 1 + 1 + 1 + 1 < w1.heap.size := by omega
    try have lw1_w_5 : w.heap.size + 1 + 1 + 1 + 1 + 1 < w1.heap.size := by omega
    try have lw1_w_6 : w.heap.size + 1 + 1 + 1 + 1 + 1 + 1 < w1.heap.size := by omega
    rw [h1]
    go_wp2_with fail
    go_call (orientation_any) as e w2 ⟨rfl, bw2⟩
    obtain ⟨sw2, zw2, cw2, fw2⟩ := bcell bw2
    try simp only [World.size_alloc, World.size_setCell, World.size_drew] at sw2
    try have lw2_w_0 : w.heap.size < w2.heap.size := by omega
    try have lw2_w_1 : w.heap.size + 1 < w2.heap.size := by omega
    try have lw2_w_2 : w.heap.size + 1 + 1 < w2.heap.size := by omega
    try have lw2_w_3 : w.heap.size + 1 + 1 + 1 < w2.heap.size := by omega
    try have lw2_w_4 : w.heap.size + 1 + 1 + 1 + 1 < w2.heap.size := by omega
    try have lw2_w_5 : w.heap.size + 1 + 1 + 1 + 1 + 1 < w2.heap.size := by omega
    try have lw2_w_6 : w.heap.size + 1 + 1 + 1 + 1 + 1 + 1 < w2.heap.size := by omega
    try have lw2_w1_0 : w1.heap.size < w2.heap.size := by omega
    try have lw2_w1_1 : w1.heap.size + 1 < w2.heap.size := by omega
    try have lw2_w1_2 : w1.heap.size + 1 + 1 < w2.heap.size := by omega
    try have lw2_w1_3 : w1.heap.size + 1 + 1 + 1 < w2.heap.size := by omega
    try have lw2_w1_4 : w1.heap.size + 1 + 1 + 1 + 1 < w2.heap.size := by omega
    try have lw2_w1_5 : w1.heap.size + 1 + 1 + 1 + 1 + 1 < w2.heap.size := by omega
    try have lw2_w1_6 : w1.heap.size + 1 + 1 + 1 + 1 + 1 + 1 < w2.heap.size := by omega
    have hM2 : Mats w2 := by
      refine hM.below ?_ hM.size
      (repeat (first | (with_reducible exact Below.refl _ _) | (with_reducible refine Ext.drewN ?_ _) | (with_reducible refine Below.drew ?_) | (with_reducible refine Ext.alloc ?_ _) | (with_reducible refine Ext.setCell ?_ (by simp; try omega) _) | (with_reducible refine Ext.trans ?_ (by assumption)) | (with_reducible assumption) | exact Below.refl _ _))
    go_wp2_with fail
    go_call (inverse_any) as e w3 ⟨rfl, bw3⟩
    obtain ⟨sw3, zw3, cw3, fw3⟩ := bcell bw3
    try simp only [World.size_alloc, World.size_setCell, World.size_drew] at sw3
    try have lw3_w_0 : w.heap.size < w3.heap.size := by omega
    try have lw3_w_1 : w.heap.size + 1 < w3.heap.size := by omega
    try have lw3_w_2 : w.heap.size + 1 + 1 < w3.heap.size := by omega
    try have lw3_w_3 : w.heap.size + 1 + 1 + 1 < w3.heap.size := by omega
    try have lw3_w_4 : w.heap.size + 1 + 1 + 1 + 1 < w3.heap.size := by omega
    try have lw3_w_5 : w.heap.size + 1 + 1 + 1 + 1 + 1 < w3.heap.size := by omega
    try have lw3_w_6 : w.heap.size + 1 + 1 + 1 + 1 + 1 + 1 < w3.heap.size := by omega
    try have lw3_w1_0 : w1.heap.size < w3.heap.size := by omega
    try have lw3_w1_1 : w1.heap.size + 1 < w3.heap.size := by omega
    try have lw3_w1_2 : w1.heap.size + 1 + 1 < w3.heap.size := by omega
    try have lw3_w1_3 : w1.heap.size + 1 + 1 + 1 < w3.heap.size := by omega
    try have lw3_w1_4 : w1.heap.size + 1 + 1 + 1 + 1 < w3.heap.size := by omega
    try have lw3_w1_5 : w1.heap.size + 1 + 1 + 1 + 1 + 1 < w3.heap.size := by omega
    try have lw3_w1_6 : w1.heap.size + 1 + 1 + 1 + 1 + 1 + 1 < w3.heap.size := by omega
    try have lw3_w2_0 : w2.heap.size < w3.heap.size := by omega
    try have lw3_w2_1 : w2.heap.size + 1 < w3.heap.size := by omega
    try have lw3_w2_2 : w2.heap.size + 1 + 1 < w3.heap.size := by omega
    try have lw3_w2_3 : w2.heap.size + 1 + 1 + 1 < w3.heap.size := by omega
    try have lw3_w2_4 : w2.heap.size + 1 + 1 + 1 + 1 < w3.heap.size := by omega
    try have lw3_w2_5 : w2.heap.size + 1 + 1 + 1 + 1 + 1 < w3.heap.size := by omega
    try have lw3_w2_6 : w2.heap.size + 1 + 1 + 1 + 1 + 1 + 1 < w3.heap.size := by omega
    have hM3 : Mats w3 := by
      refine hM.below ?_ hM.size
      (repeat (first | (with_reducible exact Below.refl _ _) | (with_reducible refine Ext.drewN ?_ _) | (with_reducible refine Below.drew ?_) | (with_reducible refine Ext.alloc ?_ _) | (with_reducible refine Ext.setCell ?_ (by simp; try omega) _) | (with_reducible refine Ext.trans ?_ (by assumption)) | (with_reducible assumption) | exact Below.refl _ _))
    go_wp2_with fail
    go_call (oImage_any) as e w4 ⟨rfl, bw4⟩
    obtain ⟨sw4, zw4, cw4, fw4⟩ := bcell bw4
    try simp only [World.size_alloc, World.size_setCell, World.size_drew] at sw4
    try have lw4_w_0 : w.heap.size < w4.heap.size := by omega
    try have lw4_w_1 : w.heap.size + 1 < w4.heap.size := by omega
    try have lw4_w_2 : w.heap.size + 1 + 1 < w4.heap.size := by omega
    try have lw4_w_3 : w.heap.size + 1 + 1 + 1 < w4.heap.size := by omega
    try have lw4_w_4 : w.heap.size + 1 + 1 + 1 + 1 < w4.heap.size := by omega
    try have lw4_w_5 : w.heap.size + 1 + 1 + 1 + 1 + 1 < w4.heap.size := by omega
    try have lw4_w_6 : w.heap.size + 1 + 1 + 1 + 1 + 1 + 1 < w4.heap.size := by omega
    try have lw4_w1_0 : w1.heap.size < w4.heap.size := by omega
    try have lw4_w1_1 : w1.heap.size + 1 < w4.heap.size := by omega
    try have lw4_w1_2 : w1.heap.size + 1 + 1 < w4.heap.size := by omega
    try have lw4_w1_3 : w1.heap.size + 1 + 1 + 1 < w4.heap.size := by omega
    try have lw4_w1_4 : w1.heap.size + 1 + 1 + 1 + 1 < w4.heap.size := by omega
    try have lw4_w1_5 : w1.heap.size + 1 + 1 + 1 + 1 + 1 < w4.heap.size := by omega
    try have lw4_w1_6 : w1.heap.size + 1 + 1 + 1 + 1 + 1 + 1 < w4.heap.size := by omega
    try have lw4_w2_0 : w2.heap.size < w4.heap.size := by omega
    try have lw4_w2_1 : w2.heap.size + 1 < w4.heap.size := by omega
    try have lw4_w2_2 : w2.heap.size + 1 + 1 < w4.heap.size := by omega
    try have lw4_w2_3 : w2.heap.size + 1 + 1 + 1 < w4.heap.size := by omega
    try have lw4_w2_4 : w2.heap.size + 1 + 1 + 1 + 1 < w4.heap.size := by omega
    try have lw4_w2_5 : w2.heap.size + 1 + 1 + 1 + 1 + 1 < w4.heap.size := by omega
    try have lw4_w2_6 : w2.heap.size + 1 + 1 + 1 + 1 + 1 + 1 < w4.heap.size := by omega
    try have lw4_w3_0 : w3.heap.size < w4.heap.size := by omega
    try have lw4_w3_1 : w3.heap.size + 1 < w4.heap.size := by omega
    try have lw4_w3_2 : w3.heap.size + 1 + 1 < w4.heap.size := by omega
    try have lw4_w3_3 : w3.heap.size + 1 + 1 + 1 < w4.heap.size := by omega
    try have lw4_w3_4 : w3.heap.size + 1 + 1 + 1 + 1 < w4.heap.size := by omega
    try have lw4_w3_5 : w3.heap.size + 1 + 1 + 1 + 1 + 1 < w4.heap.size := by omega
    try have lw4_w3_6 : w3.heap.size + 1 + 1 + 1 + 1 + 1 + 1 < w4.heap.size := by omega
    go_wp2_with fail
    refine bodyPost_ret (v := .tuple #[.agg #[.int .i64 (invO n : Nat), .int .i64 (tX (invO n : Nat) (-x) (-y)), .int .i64 (tY (invO n : Nat) (-x) (-y))], .bool true]) (by simp [*, results, Tryd.results19, go_sem]) rfl ⟨rfl, ?_⟩
    (repeat (first | (with_reducible exact Below.refl _ _) | (with_reducible refine Ext.drewN ?_ _) | (with_reducible refine Below.drew ?_) | (with_reducible refine Ext.alloc ?_ _) | (with_reducible refine Ext.setCell ?_ (by simp; try omega) _) | (with_reducible refine Ext.trans ?_ (by assumption)) | (with_reducible assumption) | exact Below.refl _ _))

end Go.Proofs.YtciodcknobccdaaDoor
