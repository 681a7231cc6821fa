/- The walk of FnTransforms. Conditions: the code's bytes lie in memory; the variable orientationMatrices holds its table. -/
import Derived.Test.YtciodcknobccdaaDoorTrT
namespace Go.Proofs.YtciodcknobccdaaDoor
open Go.RowKit
set_option linter.unusedVariables false
set_option linter.unusedSimpArgs false

set_option maxHeartbeats 16000000 in
theorem walkTr (a : Option Addr) (len cap : Nat) (w : World) (hcap : len ≤ maxLen) (hC : CodeIs w.heap.size w a len) (hM : Mats w) :
    Calls Tryd.prog 4 #[.slice a len cap] w fun e w' => e = .returned (.bool true) ∧ Below w.heap.size w w' := by
  unfold maxLen at hcap
  by_cases hbig : 4096 < len
  · go_enter Tryd.func4, Tryd.ntmps4
    go_wp2_with (go_at_call 11; refine (big_any _ _ _ _).mono ?_; rintro e w' ⟨rfl, rfl⟩)
    go_ret
    exact ⟨rfl, Below.refl _ _⟩
  have hlen : len ≤ 4096 := by omega
  go_enter Tryd.func4, Tryd.ntmps4
  go_wp2_with (go_at_call 11; refine (big_any _ _ _ _).mono ?_; rintro e w' ⟨rfl, rfl⟩)
  refine (drawCT_any a len cap _ (by omega) hC).mono ?_
  rintro e w1 ⟨o, x, y, p, q, r, ⟨ho, hx, hy⟩, ⟨hp, hq, hr⟩, rfl, bw1⟩
  have hs1 := bw1.size
  have hC1 : CodeIs w.heap.size w1 a len := hC.below bw1
  obtain ⟨n, rfl⟩ : ∃ n : Nat, o = (n : Int) := ⟨o.toNat, by omega⟩
  obtain ⟨m, rfl⟩ : ∃ m : Nat, p = (m : Int) := ⟨p.toNat, by omega⟩
  have hn8 : n < 8 := by omega
  have hm8 : m < 8 := by omega
  cases hct : ctB n x y m q r with
  | false =>
    go_wp2_with fail
    refine (specCT_no _ _ _ _ _ _ _ hct).mono ?_
    rintro e w2 ⟨rfl, bw2⟩
    go_wp2_with fail
    go_ret
    exact ⟨rfl, by (repeat (first | (with_reducible exact Below.refl _ _) | (with_reducible refine Ext.drewN ?_ _) | (with_reducible refine Below.drew ?_) | (with_reducible refine Ext.alloc ?_ _) | (with_reducible refine Ext.setCell ?_ (by simp; try omega) _) | (with_reducible refine Ext.trans ?_ (by assumption)) | (with_reducible assumption) | exact Below.refl _ _))⟩
  | true =>
    obtain ⟨hv1, hv2, hv3⟩ : vldB n x y = true ∧ vldB m q r = true ∧ vldB (cmpO n m : Nat) (tX m x y + q) (tY m x y + r) = true := by
      simp only [ctB, Bool.and_eq_true, Int.toNat_natCast] at hct
      exact ⟨hct.1.1, hct.1.2, hct.2⟩
    have hinv := inv_ct n x y hn8 hv1
    have e0 := cmp_inv0 n hn8
    have e1 : tX (invO n : Nat) x y + tX (invO n : Nat) (-x) (-y) = 0 := by have := (t_neg (invO n : Nat) x y).1; omega
    have e2 : tY (invO n : Nat) x y + tY (invO n : Nat) (-x) (-y) = 0 := by have := (t_neg (invO n : Nat) x y).2; omega
    have HE := Lib.hid (And.intro e0 (And.intro e1 e2))
    clear e0 e1 e2
    obtain ⟨⟨i1, i2⟩, ⟨i3, i4⟩, i5, i6⟩ := vldB_t hv1
    obtain ⟨⟨j1, j2⟩, ⟨j3, j4⟩, j5, j6⟩ := vldB_t hv2
    obtain ⟨⟨k1, k2⟩, ⟨k3, k4⟩, k5, k6⟩ := vldB_t hv3
    go_wp2_with fail

    refine (specCT_yes n m x y q r _ hct).mono ?_
    rintro e w2 ⟨rfl, bw2⟩
    have tw2_0 : w2.cell? ⟨w1.heap.size, 0, none⟩ = some (.int .i64 (n)) := keepC bw2 (by simp [go_sem])
    have tw2_1 : w2.cell? ⟨w1.heap.size, 1, none⟩ = some (.int .i64 (x)) := keepC bw2 (by simp [go_sem])
    have tw2_2 : w2.cell? ⟨w1.heap.size, 2, none⟩ = some (.int .i64 (y)) := keepC bw2 (by simp [go_sem])
    have ltw2 : w1.heap.size < w2.heap.size := World.block_lt_of_cell? w2 ⟨w1.heap.size, 0, none⟩ tw2_0
    have uw2_0 : w2.cell? ⟨w1.heap.size + 1, 0, none⟩ = some (.int .i64 (m)) := keepC bw2 (by simp [go_sem])
    have uw2_1 : w2.cell? ⟨w1.heap.size + 1, 1, none⟩ = some (.int .i64 (q)) := keepC bw2 (by simp [go_sem])
    have uw2_2 : w2.cell? ⟨w1.heap.size + 1, 2, none⟩ = some (.int .i64 (r)) := keepC bw2 (by simp [go_sem])
    have luw2 : w1.heap.size + 1 < w2.heap.size := World.block_lt_of_cell? w2 ⟨w1.heap.size + 1, 0, none⟩ uw2_0
    have B2 : Below w.heap.size w w2 := by (repeat (first | (with_reducible exact Below.refl _ _) | (with_reducible refine Ext.drewN ?_ _) | (with_reducible refine Below.drew ?_) | (with_reducible refine Ext.alloc ?_ _) | (with_reducible refine Ext.setCell ?_ (by simp; try omega) _) | (with_reducible refine Ext.trans ?_ (by assumption)) | (with_reducible assumption) | exact Below.refl _ _))
    clear bw2
    go_wp2_with fail
    have hMw2 : Mats (w2.alloc (.cells #[.int .i64 ((cmpO n m : Nat)), .int .i64 (tX m x y + q), .int .i64 (tY m x y + r)] 33)) := hM.below (Ext.alloc B2 _) hM.size
    refine (implCT_yes n m x y q r _ hMw2 hct).mono ?_
    rintro e w3 ⟨rfl, bw3⟩
    have tw3_0 : w3.cell? ⟨w1.heap.size, 0, none⟩ = some (.int .i64 (n)) := keepC bw3 (keepA (tw2_0) _)
    have tw3_1 : w3.cell? ⟨w1.heap.size, 1, none⟩ = some (.int .i64 (x)) := keepC bw3 (keepA (tw2_1) _)
    have tw3_2 : w3.cell? ⟨w1.heap.size, 2, none⟩ = some (.int .i64 (y)) := keepC bw3 (keepA (tw2_2) _)
    have ltw3 : w1.heap.size < w3.heap.size := World.block_lt_of_cell? w3 ⟨w1.heap.size, 0, none⟩ tw3_0
    have uw3_0 : w3.cell? ⟨w1.heap.size + 1, 0, none⟩ = some (.int .i64 (m)) := keepC bw3 (keepA (uw2_0) _)
    have uw3_1 : w3.cell? ⟨w1.heap.size + 1, 1, none⟩ = some (.int .i64 (q)) := keepC bw3 (keepA (uw2_1) _)
    have uw3_2 : w3.cell? ⟨w1.heap.size + 1, 2, none⟩ = some (.int .i64 (r)) := keepC bw3 (keepA (uw2_2) _)
    have luw3 : w1.heap.size + 1 < w3.heap.size := World.block_lt_of_cell? w3 ⟨w1.heap.size + 1, 0, none⟩ uw3_0
    have ppw3_0 : w3.cell? ⟨w2.heap.size, 0, none⟩ = some (.int .i64 ((cmpO n m : Nat))) := keepC bw3 (by simp [go_sem])
    have ppw3_1 : w3.cell? ⟨w2.heap.size, 1, none⟩ = some (.int .i64 (tX m x y + q)) := keepC bw3 (by simp [go_sem])
    have ppw3_2 : w3.cell? ⟨w2.heap.size, 2, none⟩ = some (.int .i64 (tY m x y + r)) := keepC bw3 (by simp [go_sem])
    have lppw3 : w2.heap.size < w3.heap.size := World.block_lt_of_cell? w3 ⟨w2.heap.size, 0, none⟩ ppw3_0
    clear tw2_0 tw2_1 tw2_2
    clear uw2_0 uw2_1 uw2_2
    have B3 : Below w.heap.size w w3 := Ext.trans (Ext.alloc B2 _) bw3
    clear bw3
    go_wp2_with fail
    have hMw3 : Mats (w3.alloc (.cells #[.int .i64 ((cmpO n m : Nat)), .int .i64 (tX m x y + q), .int .i64 (tY m x y + r)] 33)) := hM.below (Ext.alloc B3 _) hM.size
    refine (implIT_yes n x y _ hMw3 hv1).mono ?_
    rintro e w4 ⟨rfl, bw4⟩
    have tw4_0 : w4.cell? ⟨w1.heap.size, 0, none⟩ = some (.int .i64 (n)) := keepC bw4 (keepA (tw3_0) _)
    have tw4_1 : w4.cell? ⟨w1.heap.size, 1, none⟩ = some (.int .i64 (x)) := keepC bw4 (keepA (tw3_1) _)
    have tw4_2 : w4.cell? ⟨w1.heap.size, 2, none⟩ = some (.int .i64 (y)) := keepC bw4 (keepA (tw3_2) _)
    have ltw4 : w1.heap.size < w4.heap.size := World.block_lt_of_cell? w4 ⟨w1.heap.size, 0, none⟩ tw4_0
    have uw4_0 : w4.cell? ⟨w1.heap.size + 1, 0, none⟩ = some (.int .i64 (m)) := keepC bw4 (keepA (uw3_0) _)
    have uw4_1 : w4.cell? ⟨w1.heap.size + 1, 1, none⟩ = some (.int .i64 (q)) := keepC bw4 (keepA (uw3_1) _)
    have uw4_2 : w4.cell? ⟨w1.heap.size + 1, 2, none⟩ = some (.int .i64 (r)) := keepC bw4 (keepA (uw3_2) _)
    have luw4 : w1.heap.size + 1 < w4.heap.size := World.block_lt_of_cell? w4 ⟨w1.heap.size + 1, 0, none⟩ uw4_0
    have ppw4_0 : w4.cell? ⟨w2.heap.size, 0, none⟩ = some (.int .i64 ((cmpO n m : Nat))) := keepC bw4 (keepA (ppw3_0) _)
    have ppw4_1 : w4.cell? ⟨w2.heap.size, 1, none⟩ = some (.int .i64 (tX m x y + q)) := keepC bw4 (keepA (ppw3_1) _)
    have ppw4_2 : w4.cell? ⟨w2.heap.size, 2, none⟩ = some (.int .i64 (tY m x y + r)) := keepC bw4 (keepA (ppw3_2) _)
    have lppw4 : w2.heap.size < w4.heap.size := World.block_lt_of_cell? w4 ⟨w2.heap.size, 0, none⟩ ppw4_0
    have ccw4_0 : w4.cell? ⟨w3.heap.size, 0, none⟩ = some (.int .i64 ((cmpO n m : Nat))) := keepC bw4 (by simp [go_sem])
    have ccw4_1 : w4.cell? ⟨w3.heap.size, 1, none⟩ = some (.int .i64 (tX m x y + q)) := keepC bw4 (by simp [go_sem])
    have ccw4_2 : w4.cell? ⟨w3.heap.size, 2, none⟩ = some (.int .i64 (tY m x y + r)) := keepC bw4 (by simp [go_sem])
    have lccw4 : w3.heap.size < w4.heap.size := World.block_lt_of_cell? w4 ⟨w3.heap.size, 0, none⟩ ccw4_0
    clear tw3_0 tw3_1 tw3_2
    clear uw3_0 uw3_1 uw3_2
    clear ppw3_0 ppw3_1 ppw3_2
    have B4 : Below w.heap.size w w4 := Ext.trans (Ext.alloc B3 _) bw4
    clear bw4
    go_wp2_with fail
    have hMw4 : Mats (w4.alloc (.cells #[.int .i64 ((invO n : Nat)), .int .i64 (tX (invO n : Nat) (-x) (-y)), .int .i64 (tY (invO n : Nat) (-x) (-y))] 33)) := hM.below (Ext.alloc B4 _) hM.size
    refine (implCT_yes n (invO n) x y _ _ _ hMw4 hinv).mono ?_
    rintro e w5 ⟨rfl, bw5⟩
    have tw5_0 : w5.cell? ⟨w1.heap.size, 0, none⟩ = some (.int .i64 (n)) := keepC bw5 (keepA (tw4_0) _)
    have tw5_1 : w5.cell? ⟨w1.heap.size, 1, none⟩ = some (.int .i64 (x)) := keepC bw5 (keepA (tw4_1) _)
    have tw5_2 : w5.cell? ⟨w1.heap.size, 2, none⟩ = some (.int .i64 (y)) := keepC bw5 (keepA (tw4_2) _)
    have ltw5 : w1.heap.size < w5.heap.size := World.block_lt_of_cell? w5 ⟨w1.heap.size, 0, none⟩ tw5_0
    have uw5_0 : w5.cell? ⟨w1.heap.size + 1, 0, none⟩ = some (.int .i64 (m)) := keepC bw5 (keepA (uw4_0) _)
    have uw5_1 : w5.cell? ⟨w1.heap.size + 1, 1, none⟩ = some (.int .i64 (q)) := keepC bw5 (keepA (uw4_1) _)
    have uw5_2 : w5.cell? ⟨w1.heap.size + 1, 2, none⟩ = some (.int .i64 (r)) := keepC bw5 (keepA (uw4_2) _)
    have luw5 : w1.heap.size + 1 < w5.heap.size := World.block_lt_of_cell? w5 ⟨w1.heap.size + 1, 0, none⟩ uw5_0
    have ppw5_0 : w5.cell? ⟨w2.heap.size, 0, none⟩ = some (.int .i64 ((cmpO n m : Nat))) := keepC bw5 (keepA (ppw4_0) _)
    have ppw5_1 : w5.cell? ⟨w2.heap.size, 1, none⟩ = some (.int .i64 (tX m x y + q)) := keepC bw5 (keepA (ppw4_1) _)
    have ppw5_2 : w5.cell? ⟨w2.heap.size, 2, none⟩ = some (.int .i64 (tY m x y + r)) := keepC bw5 (keepA (ppw4_2) _)
    have lppw5 : w2.heap.size < w5.heap.size := World.block_lt_of_cell? w5 ⟨w2.heap.size, 0, none⟩ ppw5_0
    have ccw5_0 : w5.cell? ⟨w3.heap.size, 0, none⟩ = some (.int .i64 ((cmpO n m : Nat))) := keepC bw5 (keepA (ccw4_0) _)
    have ccw5_1 : w5.cell? ⟨w3.heap.size, 1, none⟩ = some (.int .i64 (tX m x y + q)) := keepC bw5 (keepA (ccw4_1) _)
    have ccw5_2 : w5.cell? ⟨w3.heap.size, 2, none⟩ = some (.int .i64 (tY m x y + r)) := keepC bw5 (keepA (ccw4_2) _)
    have lccw5 : w3.heap.size < w5.heap.size := World.block_lt_of_cell? w5 ⟨w3.heap.size, 0, none⟩ ccw5_0
    have bbw5_0 : w5.cell? ⟨w4.heap.size, 0, none⟩ = some (.int .i64 ((invO n : Nat))) := keepC bw5 (by simp [go_sem])
    have bbw5_1 : w5.cell? ⟨w4.heap.size, 1, none⟩ = some (.int .i64 (tX (invO n : Nat) (-x) (-y))) := keepC bw5 (by simp [go_sem])
    have bbw5_2 : w5.cell? ⟨w4.heap.size, 2, none⟩ = some (.int .i64 (tY (invO n : Nat) (-x) (-y))) := keepC bw5 (by simp [go_sem])
    have lbbw5 : w4.heap.size < w5.heap.size := World.block_lt_of_cell? w5 ⟨w4.heap.size, 0, none⟩ bbw5_0
    clear tw4_0 tw4_1 tw4_2
    clear uw4_0 uw4_1 uw4_2
    clear ppw4_0 ppw4_1 ppw4_2
    clear ccw4_0 ccw4_1 ccw4_2
    have B5 : Below w.heap.size w w5 := Ext.trans (Ext.alloc B4 _) bw5
    clear bw5
    rw [HE.out.1, HE.out.2.1, HE.out.2.2]
    go_wp2_with fail
    have hC5 : CodeIs w.heap.size (w5.alloc (.cells #[.int .i64 0, .int .i64 0, .int .i64 0] 33)) a len := hC.below (Ext.alloc B5 _)
    have hs5 := B5.size
    refine (roll_any w.heap.size a len cap 61 _ hlen (by simp; omega) hC5).mono ?_
    rintro e w6 ⟨g, hg0, hg1, rfl, bw6, hD6⟩
    simp only [World.size_alloc] at hg0
    have tw6_0 : w6.cell? ⟨w1.heap.size, 0, none⟩ = some (.int .i64 (n)) := keepC bw6 (keepA (tw5_0) _)
    have tw6_1 : w6.cell? ⟨w1.heap.size, 1, none⟩ = some (.int .i64 (x)) := keepC bw6 (keepA (tw5_1) _)
    have tw6_2 : w6.cell? ⟨w1.heap.size, 2, none⟩ = some (.int .i64 (y)) := keepC bw6 (keepA (tw5_2) _)
    have ltw6 : w1.heap.size < w6.heap.size := World.block_lt_of_cell? w6 ⟨w1.heap.size, 0, none⟩ tw6_0
    have uw6_0 : w6.cell? ⟨w1.heap.size + 1, 0, none⟩ = some (.int .i64 (m)) := keepC bw6 (keepA (uw5_0) _)
    have uw6_1 : w6.cell? ⟨w1.heap.size + 1, 1, none⟩ = some (.int .i64 (q)) := keepC bw6 (keepA (uw5_1) _)
    have uw6_2 : w6.cell? ⟨w1.heap.size + 1, 2, none⟩ = some (.int .i64 (r)) := keepC bw6 (keepA (uw5_2) _)
    have luw6 : w1.heap.size + 1 < w6.heap.size := World.block_lt_of_cell? w6 ⟨w1.heap.size + 1, 0, none⟩ uw6_0
    have ppw6_0 : w6.cell? ⟨w2.heap.size, 0, none⟩ = some (.int .i64 ((cmpO n m : Nat))) := keepC bw6 (keepA (ppw5_0) _)
    have ppw6_1 : w6.cell? ⟨w2.heap.size, 1, none⟩ = some (.int .i64 (tX m x y + q)) := keepC bw6 (keepA (ppw5_1) _)
    have ppw6_2 : w6.cell? ⟨w2.heap.size, 2, none⟩ = some (.int .i64 (tY m x y + r)) := keepC bw6 (keepA (ppw5_2) _)
    have lppw6 : w2.heap.size < w6.heap.size := World.block_lt_of_cell? w6 ⟨w2.heap.size, 0, none⟩ ppw6_0
    have ccw6_0 : w6.cell? ⟨w3.heap.size, 0, none⟩ = some (.int .i64 ((cmpO n m : Nat))) := keepC bw6 (keepA (ccw5_0) _)
    have ccw6_1 : w6.cell? ⟨w3.heap.size, 1, none⟩ = some (.int .i64 (tX m x y + q)) := keepC bw6 (keepA (ccw5_1) _)
    have ccw6_2 : w6.cell? ⟨w3.heap.size, 2, none⟩ = some (.int .i64 (tY m x y + r)) := keepC bw6 (keepA (ccw5_2) _)
    have lccw6 : w3.heap.size < w6.heap.size := World.block_lt_of_cell? w6 ⟨w3.heap.size, 0, none⟩ ccw6_0
    have bbw6_0 : w6.cell? ⟨w4.heap.size, 0, none⟩ = some (.int .i64 ((invO n : Nat))) := keepC bw6 (keepA (bbw5_0) _)
    have bbw6_1 : w6.cell? ⟨w4.heap.size, 1, none⟩ = some (.int .i64 (tX (invO n : Nat) (-x) (-y))) := keepC bw6 (keepA (bbw5_1) _)
    have bbw6_2 : w6.cell? ⟨w4.heap.size, 2, none⟩ = some (.int .i64 (tY (invO n : Nat) (-x) (-y))) := keepC bw6 (keepA (bbw5_2) _)
    have lbbw6 : w4.heap.size < w6.heap.size := World.block_lt_of_cell? w6 ⟨w4.heap.size, 0, none⟩ bbw6_0
    have eew6_0 : w6.cell? ⟨w5.heap.size, 0, none⟩ = some (.int .i64 (0)) := keepC bw6 (by simp [go_sem])
    have eew6_1 : w6.cell? ⟨w5.heap.size, 1, none⟩ = some (.int .i64 (0)) := keepC bw6 (by simp [go_sem])
    have eew6_2 : w6.cell? ⟨w5.heap.size, 2, none⟩ = some (.int .i64 (0)) := keepC bw6 (by simp [go_sem])
    have leew6 : w5.heap.size < w6.heap.size := World.block_lt_of_cell? w6 ⟨w5.heap.size, 0, none⟩ eew6_0
    clear tw5_0 tw5_1 tw5_2
    clear uw5_0 uw5_1 uw5_2
    clear ppw5_0 ppw5_1 ppw5_2
    clear ccw5_0 ccw5_1 ccw5_2
    clear bbw5_0 bbw5_1 bbw5_2
    have B6 : Below w.heap.size w w6 := Ext.trans (Ext.alloc B5 _) bw6
    have hC6 : CodeIs w.heap.size w6 a len := hC.below B6
    clear bw6
    go_wp2_with fail
    refine (below_any w.heap.size g a len cap 11 _ hlen (by omega) (by omega) hC6 (by omega) hD6).mono ?_
    rintro e w7 ⟨r1, r1a, r1b, rfl, ow7, hD7⟩
    have hs6 := B6.size
    have tw7_0 : w7.cell? ⟨w1.heap.size, 0, none⟩ = some (.int .i64 (n)) := Only.cell ow7 (tw6_0) (by omega)
    have tw7_1 : w7.cell? ⟨w1.heap.size, 1, none⟩ = some (.int .i64 (x)) := Only.cell ow7 (tw6_1) (by omega)
    have tw7_2 : w7.cell? ⟨w1.heap.size, 2, none⟩ = some (.int .i64 (y)) := Only.cell ow7 (tw6_2) (by omega)
    have ltw7 : w1.heap.size < w7.heap.size := World.block_lt_of_cell? w7 ⟨w1.heap.size, 0, none⟩ tw7_0
    have uw7_0 : w7.cell? ⟨w1.heap.size + 1, 0, none⟩ = some (.int .i64 (m)) := Only.cell ow7 (uw6_0) (by omega)
    have uw7_1 : w7.cell? ⟨w1.heap.size + 1, 1, none⟩ = some (.int .i64 (q)) := Only.cell ow7 (uw6_1) (by omega)
    have uw7_2 : w7.cell? ⟨w1.heap.size + 1, 2, none⟩ = some (.int .i64 (r)) := Only.cell ow7 (uw6_2) (by omega)
    have luw7 : w1.heap.size + 1 < w7.heap.size := World.block_lt_of_cell? w7 ⟨w1.heap.size + 1, 0, none⟩ uw7_0
    have ppw7_0 : w7.cell? ⟨w2.heap.size, 0, none⟩ = some (.int .i64 ((cmpO n m : Nat))) := Only.cell ow7 (ppw6_0) (by omega)
    have ppw7_1 : w7.cell? ⟨w2.heap.size, 1, none⟩ = some (.int .i64 (tX m x y + q)) := Only.cell ow7 (ppw6_1) (by omega)
    have ppw7_2 : w7.cell? ⟨w2.heap.size, 2, none⟩ = some (.int .i64 (tY m x y + r)) := Only.cell ow7 (ppw6_2) (by omega)
    have lppw7 : w2.heap.size < w7.heap.size := World.block_lt_of_cell? w7 ⟨w2.heap.size, 0, none⟩ ppw7_0
    have ccw7_0 : w7.cell? ⟨w3.heap.size, 0, none⟩ = some (.int .i64 ((cmpO n m : Nat))) := Only.cell ow7 (ccw6_0) (by omega)
    have ccw7_1 : w7.cell? ⟨w3.heap.size, 1, none⟩ = some (.int .i64 (tX m x y + q)) := Only.cell ow7 (ccw6_1) (by omega)
    have ccw7_2 : w7.cell? ⟨w3.heap.size, 2, none⟩ = some (.int .i64 (tY m x y + r)) := Only.cell ow7 (ccw6_2) (by omega)
    have lccw7 : w3.heap.size < w7.heap.size := World.block_lt_of_cell? w7 ⟨w3.heap.size, 0, none⟩ ccw7_0
    have bbw7_0 : w7.cell? ⟨w4.heap.size, 0, none⟩ = some (.int .i64 ((invO n : Nat))) := Only.cell ow7 (bbw6_0) (by omega)
    have bbw7_1 : w7.cell? ⟨w4.heap.size, 1, none⟩ = some (.int .i64 (tX (invO n : Nat) (-x) (-y))) := Only.cell ow7 (bbw6_1) (by omega)
    have bbw7_2 : w7.cell? ⟨w4.heap.size, 2, none⟩ = some (.int .i64 (tY (invO n : Nat) (-x) (-y))) := Only.cell ow7 (bbw6_2) (by omega)
    have lbbw7 : w4.heap.size < w7.heap.size := World.block_lt_of_cell? w7 ⟨w4.heap.size, 0, none⟩ bbw7_0
    have eew7_0 : w7.cell? ⟨w5.heap.size, 0, none⟩ = some (.int .i64 (0)) := Only.cell ow7 (eew6_0) (by omega)
    have eew7_1 : w7.cell? ⟨w5.heap.size, 1, none⟩ = some (.int .i64 (0)) := Only.cell ow7 (eew6_1) (by omega)
    have eew7_2 : w7.cell? ⟨w5.heap.size, 2, none⟩ = some (.int .i64 (0)) := Only.cell ow7 (eew6_2) (by omega)
    have leew7 : w5.heap.size < w7.heap.size := World.block_lt_of_cell? w7 ⟨w5.heap.size, 0, none⟩ eew7_0
    clear tw6_0 tw6_1 tw6_2
    clear uw6_0 uw6_1 uw6_2
    clear ppw6_0 ppw6_1 ppw6_2
    clear ccw6_0 ccw6_1 ccw6_2
    clear bbw6_0 bbw6_1 bbw6_2
    clear eew6_0 eew6_1 eew6_2
    have B7 : Below w.heap.size w w7 := Only.below B6 ow7 (by omega) (by omega)
    have hC7 : CodeIs w.heap.size w7 a len := hC.below B7
    clear ow7
    go_wp2_with fail
    refine (below_any w.heap.size g a len cap 11 _ hlen (by omega) (by omega) hC7 (by omega) hD7).mono ?_
    rintro e w8 ⟨r2, r2a, r2b, rfl, ow8, hD8⟩
    have hs7 := B7.size
    have tw8_0 : w8.cell? ⟨w1.heap.size, 0, none⟩ = some (.int .i64 (n)) := Only.cell ow8 (tw7_0) (by omega)
    have tw8_1 : w8.cell? ⟨w1.heap.size, 1, none⟩ = some (.int .i64 (x)) := Only.cell ow8 (tw7_1) (by omega)
    have tw8_2 : w8.cell? ⟨w1.heap.size, 2, none⟩ = some (.int .i64 (y)) := Only.cell ow8 (tw7_2) (by omega)
    have ltw8 : w1.heap.size < w8.heap.size := World.block_lt_of_cell? w8 ⟨w1.heap.size, 0, none⟩ tw8_0
    have uw8_0 : w8.cell? ⟨w1.heap.size + 1, 0, none⟩ = some (.int .i64 (m)) := Only.cell ow8 (uw7_0) (by omega)
    have uw8_1 : w8.cell? ⟨w1.heap.size + 1, 1, none⟩ = some (.int .i64 (q)) := Only.cell ow8 (uw7_1) (by omega)
    have uw8_2 : w8.cell? ⟨w1.heap.size + 1, 2, none⟩ = some (.int .i64 (r)) := Only.cell ow8 (uw7_2) (by omega)
    have luw8 : w1.heap.size + 1 < w8.heap.size := World.block_lt_of_cell? w8 ⟨w1.heap.size + 1, 0, none⟩ uw8_0
    have ppw8_0 : w8.cell? ⟨w2.heap.size, 0, none⟩ = some (.int .i64 ((cmpO n m : Nat))) := Only.cell ow8 (ppw7_0) (by omega)
    have ppw8_1 : w8.cell? ⟨w2.heap.size, 1, none⟩ = some (.int .i64 (tX m x y + q)) := Only.cell ow8 (ppw7_1) (by omega)
    have ppw8_2 : w8.cell? ⟨w2.heap.size, 2, none⟩ = some (.int .i64 (tY m x y + r)) := Only.cell ow8 (ppw7_2) (by omega)
    have lppw8 : w2.heap.size < w8.heap.size := World.block_lt_of_cell? w8 ⟨w2.heap.size, 0, none⟩ ppw8_0
    have ccw8_0 : w8.cell? ⟨w3.heap.size, 0, none⟩ = some (.int .i64 ((cmpO n m : Nat))) := Only.cell ow8 (ccw7_0) (by omega)
    have ccw8_1 : w8.cell? ⟨w3.heap.size, 1, none⟩ = some (.int .i64 (tX m x y + q)) := Only.cell ow8 (ccw7_1) (by omega)
    have ccw8_2 : w8.cell? ⟨w3.heap.size, 2, none⟩ = some (.int .i64 (tY m x y + r)) := Only.cell ow8 (ccw7_2) (by omega)
    have lccw8 : w3.heap.size < w8.heap.size := World.block_lt_of_cell? w8 ⟨w3.heap.size, 0, none⟩ ccw8_0
    have bbw8_0 : w8.cell? ⟨w4.heap.size, 0, none⟩ = some (.int .i64 ((invO n : Nat))) := Only.cell ow8 (bbw7_0) (by omega)
    have bbw8_1 : w8.cell? ⟨w4.heap.size, 1, none⟩ = some (.int .i64 (tX (invO n : Nat) (-x) (-y))) := Only.cell ow8 (bbw7_1) (by omega)
    have bbw8_2 : w8.cell? ⟨w4.heap.size, 2, none⟩ = some (.int .i64 (tY (invO n : Nat) (-x) (-y))) := Only.cell ow8 (bbw7_2) (by omega)
    have lbbw8 : w4.heap.size < w8.heap.size := World.block_lt_of_cell? w8 ⟨w4.heap.size, 0, none⟩ bbw8_0
    have eew8_0 : w8.cell? ⟨w5.heap.size, 0, none⟩ = some (.int .i64 (0)) := Only.cell ow8 (eew7_0) (by omega)
    have eew8_1 : w8.cell? ⟨w5.heap.size, 1, none⟩ = some (.int .i64 (0)) := Only.cell ow8 (eew7_1) (by omega)
    have eew8_2 : w8.cell? ⟨w5.heap.size, 2, none⟩ = some (.int .i64 (0)) := Only.cell ow8 (eew7_2) (by omega)
    have leew8 : w5.heap.size < w8.heap.size := World.block_lt_of_cell? w8 ⟨w5.heap.size, 0, none⟩ eew8_0
    clear tw7_0 tw7_1 tw7_2
    clear uw7_0 uw7_1 uw7_2
    clear ppw7_0 ppw7_1 ppw7_2
    clear ccw7_0 ccw7_1 ccw7_2
    clear bbw7_0 bbw7_1 bbw7_2
    clear eew7_0 eew7_1 eew7_2
    have B8 : Below w.heap.size w w8 := Only.below B7 ow8 (by omega) (by omega)
    clear ow8 hD6 hD7 hD8 hC5 hC6 hC7
    have hon : onB (r1 - 5) (r2 - 5) = true := by
      unfold onB
      rw [inB_mk (by omega) (by omega), inB_mk (by omega) (by omega)]; rfl
    obtain ⟨⟨t1, t2⟩, t3, t4⟩ := t_bd n (r1 - 5) (r2 - 5) 16 (by omega) (by omega) (by omega) (by omega)
    go_wp2_with fail
    have hMw8 : Mats (w8.alloc (.cells #[.int .i64 (r1 - 5), .int .i64 (r2 - 5)] 44)) := hM.below (Ext.alloc B8 _) hM.size
    refine (implMP_yes n x y (r1 - 5) (r2 - 5) _ hMw8 hv1 hon).mono ?_
    rintro e w9 ⟨rfl, bw9⟩
    have tw9_0 : w9.cell? ⟨w1.heap.size, 0, none⟩ = some (.int .i64 (n)) := keepC bw9 (keepA (tw8_0) _)
    have tw9_1 : w9.cell? ⟨w1.heap.size, 1, none⟩ = some (.int .i64 (x)) := keepC bw9 (keepA (tw8_1) _)
    have tw9_2 : w9.cell? ⟨w1.heap.size, 2, none⟩ = some (.int .i64 (y)) := keepC bw9 (keepA (tw8_2) _)
    have ltw9 : w1.heap.size < w9.heap.size := World.block_lt_of_cell? w9 ⟨w1.heap.size, 0, none⟩ tw9_0
    have uw9_0 : w9.cell? ⟨w1.heap.size + 1, 0, none⟩ = some (.int .i64 (m)) := keepC bw9 (keepA (uw8_0) _)
    have uw9_1 : w9.cell? ⟨w1.heap.size + 1, 1, none⟩ = some (.int .i64 (q)) := keepC bw9 (keepA (uw8_1) _)
    have uw9_2 : w9.cell? ⟨w1.heap.size + 1, 2, none⟩ = some (.int .i64 (r)) := keepC bw9 (keepA (uw8_2) _)
    have luw9 : w1.heap.size + 1 < w9.heap.size := World.block_lt_of_cell? w9 ⟨w1.heap.size + 1, 0, none⟩ uw9_0
    have ppw9_0 : w9.cell? ⟨w2.heap.size, 0, none⟩ = some (.int .i64 ((cmpO n m : Nat))) := keepC bw9 (keepA (ppw8_0) _)
    have ppw9_1 : w9.cell? ⟨w2.heap.size, 1, none⟩ = some (.int .i64 (tX m x y + q)) := keepC bw9 (keepA (ppw8_1) _)
    have ppw9_2 : w9.cell? ⟨w2.heap.size, 2, none⟩ = some (.int .i64 (tY m x y + r)) := keepC bw9 (keepA (ppw8_2) _)
    have lppw9 : w2.heap.size < w9.heap.size := World.block_lt_of_cell? w9 ⟨w2.heap.size, 0, none⟩ ppw9_0
    have ccw9_0 : w9.cell? ⟨w3.heap.size, 0, none⟩ = some (.int .i64 ((cmpO n m : Nat))) := keepC bw9 (keepA (ccw8_0) _)
    have ccw9_1 : w9.cell? ⟨w3.heap.size, 1, none⟩ = some (.int .i64 (tX m x y + q)) := keepC bw9 (keepA (ccw8_1) _)
    have ccw9_2 : w9.cell? ⟨w3.heap.size, 2, none⟩ = some (.int .i64 (tY m x y + r)) := keepC bw9 (keepA (ccw8_2) _)
    have lccw9 : w3.heap.size < w9.heap.size := World.block_lt_of_cell? w9 ⟨w3.heap.size, 0, none⟩ ccw9_0
    have bbw9_0 : w9.cell? ⟨w4.heap.size, 0, none⟩ = some (.int .i64 ((invO n : Nat))) := keepC bw9 (keepA (bbw8_0) _)
    have bbw9_1 : w9.cell? ⟨w4.heap.size, 1, none⟩ = some (.int .i64 (tX (invO n : Nat) (-x) (-y))) := keepC bw9 (keepA (bbw8_1) _)
    have bbw9_2 : w9.cell? ⟨w4.heap.size, 2, none⟩ = some (.int .i64 (tY (invO n : Nat) (-x) (-y))) := keepC bw9 (keepA (bbw8_2) _)
    have lbbw9 : w4.heap.size < w9.heap.size := World.block_lt_of_cell? w9 ⟨w4.heap.size, 0, none⟩ bbw9_0
    have eew9_0 : w9.cell? ⟨w5.heap.size, 0, none⟩ = some (.int .i64 (0)) := keepC bw9 (keepA (eew8_0) _)
    have eew9_1 : w9.cell? ⟨w5.heap.size, 1, none⟩ = some (.int .i64 (0)) := keepC bw9 (keepA (eew8_1) _)
    have eew9_2 : w9.cell? ⟨w5.heap.size, 2, none⟩ = some (.int .i64 (0)) := keepC bw9 (keepA (eew8_2) _)
    have leew9 : w5.heap.size < w9.heap.size := World.block_lt_of_cell? w9 ⟨w5.heap.size, 0, none⟩ eew9_0
    have aaw9_0 : w9.cell? ⟨w8.heap.size, 0, none⟩ = some (.int .i64 (r1 - 5)) := keepC bw9 (by simp [go_sem])
    have aaw9_1 : w9.cell? ⟨w8.heap.size, 1, none⟩ = some (.int .i64 (r2 - 5)) := keepC bw9 (by simp [go_sem])
    have laaw9 : w8.heap.size < w9.heap.size := World.block_lt_of_cell? w9 ⟨w8.heap.size, 0, none⟩ aaw9_0
    clear tw8_0 tw8_1 tw8_2
    clear uw8_0 uw8_1 uw8_2
    clear ppw8_0 ppw8_1 ppw8_2
    clear ccw8_0 ccw8_1 ccw8_2
    clear bbw8_0 bbw8_1 bbw8_2
    clear eew8_0 eew8_1 eew8_2
    have B9 : Below w.heap.size w w9 := Ext.trans (Ext.alloc B8 _) bw9
    clear bw9
    go_wp2_with fail
    have hMw9 : Mats (w9.alloc (.cells #[.int .i64 (tX n (r1 - 5) (r2 - 5) + x), .int .i64 (tY n (r1 - 5) (r2 - 5) + y)] 44)) := hM.below (Ext.alloc B9 _) hM.size
    refine (implMP_yes (cmpO n m : Nat) (tX m x y + q) (tY m x y + r) (r1 - 5) (r2 - 5) _ hMw9 hv3 hon).mono ?_
    rintro e w10 ⟨rfl, bw10⟩
    have tw10_0 : w10.cell? ⟨w1.heap.size, 0, none⟩ = some (.int .i64 (n)) := keepC bw10 (keepA (tw9_0) _)
    have tw10_1 : w10.cell? ⟨w1.heap.size, 1, none⟩ = some (.int .i64 (x)) := keepC bw10 (keepA (tw9_1) _)
    have tw10_2 : w10.cell? ⟨w1.heap.size, 2, none⟩ = some (.int .i64 (y)) := keepC bw10 (keepA (tw9_2) _)
    have ltw10 : w1.heap.size < w10.heap.size := World.block_lt_of_cell? w10 ⟨w1.heap.size, 0, none⟩ tw10_0
    have uw10_0 : w10.cell? ⟨w1.heap.size + 1, 0, none⟩ = some (.int .i64 (m)) := keepC bw10 (keepA (uw9_0) _)
    have uw10_1 : w10.cell? ⟨w1.heap.size + 1, 1, none⟩ = some (.int .i64 (q)) := keepC bw10 (keepA (uw9_1) _)
    have uw10_2 : w10.cell? ⟨w1.heap.size + 1, 2, none⟩ = some (.int .i64 (r)) := keepC bw10 (keepA (uw9_2) _)
    have luw10 : w1.heap.size + 1 < w10.heap.size := World.block_lt_of_cell? w10 ⟨w1.heap.size + 1, 0, none⟩ uw10_0
    have ppw10_0 : w10.cell? ⟨w2.heap.size, 0, none⟩ = some (.int .i64 ((cmpO n m : Nat))) := keepC bw10 (keepA (ppw9_0) _)
    have ppw10_1 : w10.cell? ⟨w2.heap.size, 1, none⟩ = some (.int .i64 (tX m x y + q)) := keepC bw10 (keepA (ppw9_1) _)
    have ppw10_2 : w10.cell? ⟨w2.heap.size, 2, none⟩ = some (.int .i64 (tY m x y + r)) := keepC bw10 (keepA (ppw9_2) _)
    have lppw10 : w2.heap.size < w10.heap.size := World.block_lt_of_cell? w10 ⟨w2.heap.size, 0, none⟩ ppw10_0
    have ccw10_0 : w10.cell? ⟨w3.heap.size, 0, none⟩ = some (.int .i64 ((cmpO n m : Nat))) := keepC bw10 (keepA (ccw9_0) _)
    have ccw10_1 : w10.cell? ⟨w3.heap.size, 1, none⟩ = some (.int .i64 (tX m x y + q)) := keepC bw10 (keepA (ccw9_1) _)
    have ccw10_2 : w10.cell? ⟨w3.heap.size, 2, none⟩ = some (.int .i64 (tY m x y + r)) := keepC bw10 (keepA (ccw9_2) _)
    have lccw10 : w3.heap.size < w10.heap.size := World.block_lt_of_cell? w10 ⟨w3.heap.size, 0, none⟩ ccw10_0
    have bbw10_0 : w10.cell? ⟨w4.heap.size, 0, none⟩ = some (.int .i64 ((invO n : Nat))) := keepC bw10 (keepA (bbw9_0) _)
    have bbw10_1 : w10.cell? ⟨w4.heap.size, 1, none⟩ = some (.int .i64 (tX (invO n : Nat) (-x) (-y))) := keepC bw10 (keepA (bbw9_1) _)
    have bbw10_2 : w10.cell? ⟨w4.heap.size, 2, none⟩ = some (.int .i64 (tY (invO n : Nat) (-x) (-y))) := keepC bw10 (keepA (bbw9_2) _)
    have lbbw10 : w4.heap.size < w10.heap.size := World.block_lt_of_cell? w10 ⟨w4.heap.size, 0, none⟩ bbw10_0
    have eew10_0 : w10.cell? ⟨w5.heap.size, 0, none⟩ = some (.int .i64 (0)) := keepC bw10 (keepA (eew9_0) _)
    have eew10_1 : w10.cell? ⟨w5.heap.size, 1, none⟩ = some (.int .i64 (0)) := keepC bw10 (keepA (eew9_1) _)
    have eew10_2 : w10.cell? ⟨w5.heap.size, 2, none⟩ = some (.int .i64 (0)) := keepC bw10 (keepA (eew9_2) _)
    have leew10 : w5.heap.size < w10.heap.size := World.block_lt_of_cell? w10 ⟨w5.heap.size, 0, none⟩ eew10_0
    have aaw10_0 : w10.cell? ⟨w8.heap.size, 0, none⟩ = some (.int .i64 (r1 - 5)) := keepC bw10 (keepA (aaw9_0) _)
    have aaw10_1 : w10.cell? ⟨w8.heap.size, 1, none⟩ = some (.int .i64 (r2 - 5)) := keepC bw10 (keepA (aaw9_1) _)
    have laaw10 : w8.heap.size < w10.heap.size := World.block_lt_of_cell? w10 ⟨w8.heap.size, 0, none⟩ aaw10_0
    have amw10_0 : w10.cell? ⟨w9.heap.size, 0, none⟩ = some (.int .i64 (tX n (r1 - 5) (r2 - 5) + x)) := keepC bw10 (by simp [go_sem])
    have amw10_1 : w10.cell? ⟨w9.heap.size, 1, none⟩ = some (.int .i64 (tY n (r1 - 5) (r2 - 5) + y)) := keepC bw10 (by simp [go_sem])
    have lamw10 : w9.heap.size < w10.heap.size := World.block_lt_of_cell? w10 ⟨w9.heap.size, 0, none⟩ amw10_0
    clear tw9_0 tw9_1 tw9_2
    clear uw9_0 uw9_1 uw9_2
    clear ppw9_0 ppw9_1 ppw9_2
    clear ccw9_0 ccw9_1 ccw9_2
    clear bbw9_0 bbw9_1 bbw9_2
    clear eew9_0 eew9_1 eew9_2
    clear aaw9_0 aaw9_1
    have B10 : Below w.heap.size w w10 := Ext.trans (Ext.alloc B9 _) bw10
    clear bw10
    have heqT1 : ∀ w : World, (Op.equalIn 10000 33 (.agg #[.int .i64 ((cmpO n m : Nat)), .int .i64 (tX m x y + q), .int .i64 (tY m x y + r)]) (.agg #[.int .i64 ((cmpO n m : Nat)), .int .i64 (tX m x y + q), .int .i64 (tY m x y + r)])).run Tryd.prog w = .ok true w := fun w => by rw [eqTr]; simp
    have heqT2 : ∀ w : World, (Op.equalIn 10000 33 (.agg #[.int .i64 0, .int .i64 0, .int .i64 0]) (.agg #[.int .i64 0, .int .i64 0, .int .i64 0])).run Tryd.prog w = .ok true w := fun w => by rw [eqTr]; simp
    cases hoa : onB (tX n (r1 - 5) (r2 - 5) + x) (tY n (r1 - 5) (r2 - 5) + y) with
    | true =>
      obtain ⟨⟨y1, y2⟩, y3, y4⟩ := onB_t hoa
      have heqP : ∀ w : World, (Op.equalIn 10000 44 (.agg #[.int .i64 (tX (cmpO n m : Nat) (r1 - 5) (r2 - 5) + (tX m x y + q)), .int .i64 (tY (cmpO n m : Nat) (r1 - 5) (r2 - 5) + (tY m x y + r))]) (.agg #[.int .i64 (tX m (tX n (r1 - 5) (r2 - 5) + x) (tY n (r1 - 5) (r2 - 5) + y) + q), .int .i64 (tY m (tX n (r1 - 5) (r2 - 5) + x) (tY n (r1 - 5) (r2 - 5) + y) + r)])).run Tryd.prog w = .ok true w := fun w => by
        rw [eqPt, (t_add m _ _ x y).1, (t_add m _ _ x y).2, (t_cmp n m hn8 hm8 _ _).1, (t_cmp n m hn8 hm8 _ _).2]
        simp [Int.add_assoc]
      go_wp2_with fail
      have hMw10 : Mats (w10.alloc (.cells #[.int .i64 (tX (cmpO n m : Nat) (r1 - 5) (r2 - 5) + (tX m x y + q)), .int .i64 (tY (cmpO n m : Nat) (r1 - 5) (r2 - 5) + (tY m x y + r))] 44)) := hM.below (Ext.alloc B10 _) hM.size
      refine (implMP_yes m q r (tX n (r1 - 5) (r2 - 5) + x) (tY n (r1 - 5) (r2 - 5) + y) _ hMw10 hv2 hoa).mono ?_
      rintro e w11 ⟨rfl, bw11⟩
      have tw11_0 : w11.cell? ⟨w1.heap.size, 0, none⟩ = some (.int .i64 (n)) := keepC bw11 (keepA (tw10_0) _)
      have tw11_1 : w11.cell? ⟨w1.heap.size, 1, none⟩ = some (.int .i64 (x)) := keepC bw11 (keepA (tw10_1) _)
      have tw11_2 : w11.cell? ⟨w1.heap.size, 2, none⟩ = some (.int .i64 (y)) := keepC bw11 (keepA (tw10_2) _)
      have ltw11 : w1.heap.size < w11.heap.size := World.block_lt_of_cell? w11 ⟨w1.heap.size, 0, none⟩ tw11_0
      have uw11_0 : w11.cell? ⟨w1.heap.size + 1, 0, none⟩ = some (.int .i64 (m)) := keepC bw11 (keepA (uw10_0) _)
      have uw11_1 : w11.cell? ⟨w1.heap.size + 1, 1, none⟩ = some (.int .i64 (q)) := keepC bw11 (keepA (uw10_1) _)
      have uw11_2 : w11.cell? ⟨w1.heap.size + 1, 2, none⟩ = some (.int .i64 (r)) := keepC bw11 (keepA (uw10_2) _)
      have luw11 : w1.heap.size + 1 < w11.heap.size := World.block_lt_of_cell? w11 ⟨w1.heap.size + 1, 0, none⟩ uw11_0
      have ppw11_0 : w11.cell? ⟨w2.heap.size, 0, none⟩ = some (.int .i64 ((cmpO n m : Nat))) := keepC bw11 (keepA (ppw10_0) _)
      have ppw11_1 : w11.cell? ⟨w2.heap.size, 1, none⟩ = some (.int .i64 (tX m x y + q)) := keepC bw11 (keepA (ppw10_1) _)
      have ppw11_2 : w11.cell? ⟨w2.heap.size, 2, none⟩ = some (.int .i64 (tY m x y + r)) := keepC bw11 (keepA (ppw10_2) _)
      have lppw11 : w2.heap.size < w11.heap.size := World.block_lt_of_cell? w11 ⟨w2.heap.size, 0, none⟩ ppw11_0
      have ccw11_0 : w11.cell? ⟨w3.heap.size, 0, none⟩ = some (.int .i64 ((cmpO n m : Nat))) := keepC bw11 (keepA (ccw10_0) _)
      have ccw11_1 : w11.cell? ⟨w3.heap.size, 1, none⟩ = some (.int .i64 (tX m x y + q)) := keepC bw11 (keepA (ccw10_1) _)
      have ccw11_2 : w11.cell? ⟨w3.heap.size, 2, none⟩ = some (.int .i64 (tY m x y + r)) := keepC bw11 (keepA (ccw10_2) _)
      have lccw11 : w3.heap.size < w11.heap.size := World.block_lt_of_cell? w11 ⟨w3.heap.size, 0, none⟩ ccw11_0
      have bbw11_0 : w11.cell? ⟨w4.heap.size, 0, none⟩ = some (.int .i64 ((invO n : Nat))) := keepC bw11 (keepA (bbw10_0) _)
      have bbw11_1 : w11.cell? ⟨w4.heap.size, 1, none⟩ = some (.int .i64 (tX (invO n : Nat) (-x) (-y))) := keepC bw11 (keepA (bbw10_1) _)
      have bbw11_2 : w11.cell? ⟨w4.heap.size, 2, none⟩ = some (.int .i64 (tY (invO n : Nat) (-x) (-y))) := keepC bw11 (keepA (bbw10_2) _)
      have lbbw11 : w4.heap.size < w11.heap.size := World.block_lt_of_cell? w11 ⟨w4.heap.size, 0, none⟩ bbw11_0
      have eew11_0 : w11.cell? ⟨w5.heap.size, 0, none⟩ = some (.int .i64 (0)) := keepC bw11 (keepA (eew10_0) _)
      have eew11_1 : w11.cell? ⟨w5.heap.size, 1, none⟩ = some (.int .i64 (0)) := keepC bw11 (keepA (eew10_1) _)
      have eew11_2 : w11.cell? ⟨w5.heap.size, 2, none⟩ = some (.int .i64 (0)) := keepC bw11 (keepA (eew10_2) _)
      have leew11 : w5.heap.size < w11.heap.size := World.block_lt_of_cell? w11 ⟨w5.heap.size, 0, none⟩ eew11_0
      have aaw11_0 : w11.cell? ⟨w8.heap.size, 0, none⟩ = some (.int .i64 (r1 - 5)) := keepC bw11 (keepA (aaw10_0) _)
      have aaw11_1 : w11.cell? ⟨w8.heap.size, 1, none⟩ = some (.int .i64 (r2 - 5)) := keepC bw11 (keepA (aaw10_1) _)
      have laaw11 : w8.heap.size < w11.heap.size := World.block_lt_of_cell? w11 ⟨w8.heap.size, 0, none⟩ aaw11_0
      have amw11_0 : w11.cell? ⟨w9.heap.size, 0, none⟩ = some (.int .i64 (tX n (r1 - 5) (r2 - 5) + x)) := keepC bw11 (keepA (amw10_0) _)
      have amw11_1 : w11.cell? ⟨w9.heap.size, 1, none⟩ = some (.int .i64 (tY n (r1 - 5) (r2 - 5) + y)) := keepC bw11 (keepA (amw10_1) _)
      have lamw11 : w9.heap.size < w11.heap.size := World.block_lt_of_cell? w11 ⟨w9.heap.size, 0, none⟩ amw11_0
      have bmw11_0 : w11.cell? ⟨w10.heap.size, 0, none⟩ = some (.int .i64 (tX (cmpO n m : Nat) (r1 - 5) (r2 - 5) + (tX m x y + q))) := keepC bw11 (by simp [go_sem])
      have bmw11_1 : w11.cell? ⟨w10.heap.size, 1, none⟩ = some (.int .i64 (tY (cmpO n m : Nat) (r1 - 5) (r2 - 5) + (tY m x y + r))) := keepC bw11 (by simp [go_sem])
      have lbmw11 : w10.heap.size < w11.heap.size := World.block_lt_of_cell? w11 ⟨w10.heap.size, 0, none⟩ bmw11_0
      clear tw10_0 tw10_1 tw10_2
      clear uw10_0 uw10_1 uw10_2
      clear ppw10_0 ppw10_1 ppw10_2
      clear ccw10_0 ccw10_1 ccw10_2
      clear bbw10_0 bbw10_1 bbw10_2
      clear eew10_0 eew10_1 eew10_2
      clear aaw10_0 aaw10_1
      clear amw10_0 amw10_1
      have B11 : Below w.heap.size w w11 := Ext.trans (Ext.alloc B10 _) bw11
      clear bw11
      go_wp2_with fail
      go_ret
      exact ⟨rfl, by (repeat (first | (with_reducible exact Below.refl _ _) | (with_reducible refine Ext.drewN ?_ _) | (with_reducible refine Below.drew ?_) | (with_reducible refine Ext.alloc ?_ _) | (with_reducible refine Ext.setCell ?_ (by simp; try omega) _) | (with_reducible refine Ext.trans ?_ (by assumption)) | (with_reducible assumption) | exact Below.refl _ _))⟩
    | false =>
      go_wp2_with fail
      have hMw10 : Mats (w10.alloc (.cells #[.int .i64 (tX (cmpO n m : Nat) (r1 - 5) (r2 - 5) + (tX m x y + q)), .int .i64 (tY (cmpO n m : Nat) (r1 - 5) (r2 - 5) + (tY m x y + r))] 44)) := hM.below (Ext.alloc B10 _) hM.size
      refine (implMP_no m q r (tX n (r1 - 5) (r2 - 5) + x) (tY n (r1 - 5) (r2 - 5) + y) _ hMw10 hoa).mono ?_
      rintro e w11 ⟨rfl, bw11⟩
      have tw11_0 : w11.cell? ⟨w1.heap.size, 0, none⟩ = some (.int .i64 (n)) := keepC bw11 (keepA (tw10_0) _)
      have tw11_1 : w11.cell? ⟨w1.heap.size, 1, none⟩ = some (.int .i64 (x)) := keepC bw11 (keepA (tw10_1) _)
      have tw11_2 : w11.cell? ⟨w1.heap.size, 2, none⟩ = some (.int .i64 (y)) := keepC bw11 (keepA (tw10_2) _)
      have ltw11 : w1.heap.size < w11.heap.size := World.block_lt_of_cell? w11 ⟨w1.heap.size, 0, none⟩ tw11_0
      have uw11_0 : w11.cell? ⟨w1.heap.size + 1, 0, none⟩ = some (.int .i64 (m)) := keepC bw11 (keepA (uw10_0) _)
      have uw11_1 : w11.cell? ⟨w1.heap.size + 1, 1, none⟩ = some (.int .i64 (q)) := keepC bw11 (keepA (uw10_1) _)
      have uw11_2 : w11.cell? ⟨w1.heap.size + 1, 2, none⟩ = some (.int .i64 (r)) := keepC bw11 (keepA (uw10_2) _)
      have luw11 : w1.heap.size + 1 < w11.heap.size := World.block_lt_of_cell? w11 ⟨w1.heap.size + 1, 0, none⟩ uw11_0
      have ppw11_0 : w11.cell? ⟨w2.heap.size, 0, none⟩ = some (.int .i64 ((cmpO n m : Nat))) := keepC bw11 (keepA (ppw10_0) _)
      have ppw11_1 : w11.cell? ⟨w2.heap.size, 1, none⟩ = some (.int .i64 (tX m x y + q)) := keepC bw11 (keepA (ppw10_1) _)
      have ppw11_2 : w11.cell? ⟨w2.heap.size, 2, none⟩ = some (.int .i64 (tY m x y + r)) := keepC bw11 (keepA (ppw10_2) _)
      have lppw11 : w2.heap.size < w11.heap.size := World.block_lt_of_cell? w11 ⟨w2.heap.size, 0, none⟩ ppw11_0
      have ccw11_0 : w11.cell? ⟨w3.heap.size, 0, none⟩ = some (.int .i64 ((cmpO n m : Nat))) := keepC bw11 (keepA (ccw10_0) _)
      have ccw11_1 : w11.cell? ⟨w3.heap.size, 1, none⟩ = some (.int .i64 (tX m x y + q)) := keepC bw11 (keepA (ccw10_1) _)
      have ccw11_2 : w11.cell? ⟨w3.heap.size, 2, none⟩ = some (.int .i64 (tY m x y + r)) := keepC bw11 (keepA (ccw10_2) _)
      have lccw11 : w3.heap.size < w11.heap.size := World.block_lt_of_cell? w11 ⟨w3.heap.size, 0, none⟩ ccw11_0
      have bbw11_0 : w11.cell? ⟨w4.heap.size, 0, none⟩ = some (.int .i64 ((invO n : Nat))) := keepC bw11 (keepA (bbw10_0) _)
      have bbw11_1 : w11.cell? ⟨w4.heap.size, 1, none⟩ = some (.int .i64 (tX (invO n : Nat) (-x) (-y))) := keepC bw11 (keepA (bbw10_1) _)
      have bbw11_2 : w11.cell? ⟨w4.heap.size, 2, none⟩ = some (.int .i64 (tY (invO n : Nat) (-x) (-y))) := keepC bw11 (keepA (bbw10_2) _)
      have lbbw11 : w4.heap.size < w11.heap.size := World.block_lt_of_cell? w11 ⟨w4.heap.size, 0, none⟩ bbw11_0
      have eew11_0 : w11.cell? ⟨w5.heap.size, 0, none⟩ = some (.int .i64 (0)) := keepC bw11 (keepA (eew10_0) _)
      have eew11_1 : w11.cell? ⟨w5.heap.size, 1, none⟩ = some (.int .i64 (0)) := keepC bw11 (keepA (eew10_1) _)
      have eew11_2 : w11.cell? ⟨w5.heap.size, 2, none⟩ = some (.int .i64 (0)) := keepC bw11 (keepA (eew10_2) _)
      have leew11 : w5.heap.size < w11.heap.size := World.block_lt_of_cell? w11 ⟨w5.heap.size, 0, none⟩ eew11_0
      have aaw11_0 : w11.cell? ⟨w8.heap.size, 0, none⟩ = some (.int .i64 (r1 - 5)) := keepC bw11 (keepA (aaw10_0) _)
      have aaw11_1 : w11.cell? ⟨w8.heap.size, 1, none⟩ = some (.int .i64 (r2 - 5)) := keepC bw11 (keepA (aaw10_1) _)
      have laaw11 : w8.heap.size < w11.heap.size := World.block_lt_of_cell? w11 ⟨w8.heap.size, 0, none⟩ aaw11_0
      have amw11_0 : w11.cell? ⟨w9.heap.size, 0, none⟩ = some (.int .i64 (tX n (r1 - 5) (r2 - 5) + x)) := keepC bw11 (keepA (amw10_0) _)
      have amw11_1 : w11.cell? ⟨w9.heap.size, 1, none⟩ = some (.int .i64 (tY n (r1 - 5) (r2 - 5) + y)) := keepC bw11 (keepA (amw10_1) _)
      have lamw11 : w9.heap.size < w11.heap.size := World.block_lt_of_cell? w11 ⟨w9.heap.size, 0, none⟩ amw11_0
      have bmw11_0 : w11.cell? ⟨w10.heap.size, 0, none⟩ = some (.int .i64 (tX (cmpO n m : Nat) (r1 - 5) (r2 - 5) + (tX m x y + q))) := keepC bw11 (by simp [go_sem])
      have bmw11_1 : w11.cell? ⟨w10.heap.size, 1, none⟩ = some (.int .i64 (tY (cmpO n m : Nat) (r1 - 5) (r2 - 5) + (tY m x y + r))) := keepC bw11 (by simp [go_sem])
      have lbmw11 : w10.heap.size < w11.heap.size := World.block_lt_of_cell? w11 ⟨w10.heap.size, 0, none⟩ bmw11_0
      clear tw10_0 tw10_1 tw10_2
      clear uw10_0 uw10_1 uw10_2
      clear ppw10_0 ppw10_1 ppw10_2
      clear ccw10_0 ccw10_1 ccw10_2
      clear bbw10_0 bbw10_1 bbw10_2
      clear eew10_0 eew10_1 eew10_2
      clear aaw10_0 aaw10_1
      clear amw10_0 amw10_1
      have B11 : Below w.heap.size w w11 := Ext.trans (Ext.alloc B10 _) bw11
      clear bw11
      by_cases z1 : tX n (r1 - 5) (r2 - 5) + x < -40
      · go_wp2_with fail
        go_ret
        exact ⟨rfl, by (repeat (first | (with_reducible exact Below.refl _ _) | (with_reducible refine Ext.drewN ?_ _) | (with_reducible refine Below.drew ?_) | (with_reducible refine Ext.alloc ?_ _) | (with_reducible refine Ext.setCell ?_ (by simp; try omega) _) | (with_reducible refine Ext.trans ?_ (by assumption)) | (with_reducible assumption) | exact Below.refl _ _))⟩
      by_cases z2 : 40 < tX n (r1 - 5) (r2 - 5) + x
      · go_wp2_with fail
        go_ret
        exact ⟨rfl, by (repeat (first | (with_reducible exact Below.refl _ _) | (with_reducible refine Ext.drewN ?_ _) | (with_reducible refine Below.drew ?_) | (with_reducible refine Ext.alloc ?_ _) | (with_reducible refine Ext.setCell ?_ (by simp; try omega) _) | (with_reducible refine Ext.trans ?_ (by assumption)) | (with_reducible assumption) | exact Below.refl _ _))⟩
      by_cases z3 : tY n (r1 - 5) (r2 - 5) + y < -40
      · go_wp2_with fail
        go_ret
        exact ⟨rfl, by (repeat (first | (with_reducible exact Below.refl _ _) | (with_reducible refine Ext.drewN ?_ _) | (with_reducible refine Below.drew ?_) | (with_reducible refine Ext.alloc ?_ _) | (with_reducible refine Ext.setCell ?_ (by simp; try omega) _) | (with_reducible refine Ext.trans ?_ (by assumption)) | (with_reducible assumption) | exact Below.refl _ _))⟩
      have z4 : 40 < tY n (r1 - 5) (r2 - 5) + y := by
        by_cases z5 : 40 < tY n (r1 - 5) (r2 - 5) + y
        · exact z5
        · exfalso
          have hh : onB (tX n (r1 - 5) (r2 - 5) + x) (tY n (r1 - 5) (r2 - 5) + y) = true := by
            unfold onB
            rw [inB_mk (by omega) (by omega), inB_mk (by omega) (by omega)]; rfl
          rw [hoa] at hh
          cases hh
      go_wp2_with fail
      go_ret
      exact ⟨rfl, by (repeat (first | (with_reducible exact Below.refl _ _) | (with_reducible refine Ext.drewN ?_ _) | (with_reducible refine Below.drew ?_) | (with_reducible refine Ext.alloc ?_ _) | (with_reducible refine Ext.setCell ?_ (by simp; try omega) _) | (with_reducible refine Ext.trans ?_ (by assumption)) | (with_reducible assumption) | exact Below.refl _ _))⟩
end Go.Proofs.YtciodcknobccdaaDoor
