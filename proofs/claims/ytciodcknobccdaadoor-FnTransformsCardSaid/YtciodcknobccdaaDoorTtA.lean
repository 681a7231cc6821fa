/- The program's composition of transforms, in whatever range. Condition: the variable orientationMatrices holds its table. -/
import Derived.Test.YtciodcknobccdaaDoorTrH
import Derived.Test.YtciodcknobccdaaDoorOcR
namespace Go.Proofs.YtciodcknobccdaaDoor
open Go.RowKit
set_option linter.unusedVariables false
set_option linter.unusedSimpArgs false
attribute [local go_sem ↓] Go.wp_at_zero Go.wp_at_succ

theorem fzA {w : World} {p : Addr} (h : w.frozen? p = false) (hp : p.block < w.heap.size) (o : Obj) : (w.alloc o).frozen? p = false :=
  (((Below.refl w.heap.size w).alloc (Nat.le_refl _) o).frozen hp).trans h
theorem fzC {n : Nat} {w v : World} {p : Addr} (hb : Below n w v) (h : w.frozen? p = false) (hp : p.block < n) : v.frozen? p = false := (hb.frozen hp).trans h
set_option maxHeartbeats 16000000 in
theorem tThen_any (n m : Nat) (x y q r : Int) (w : World) (hn8 : n < 8) (hm8 : m < 8) (hM : Mats w) (hx : -10000 ≤ x) (hx' : x ≤ 10000) (hy : -10000 ≤ y) (hy' : y ≤ 10000) (hq : -10000 ≤ q) (hq' : q ≤ 10000) (hr : -10000 ≤ r) (hr' : r ≤ 10000) :
    Calls Tryd.prog 56 #[.agg #[.int .i64 n, .int .i64 x, .int .i64 y], .agg #[.int .i64 m, .int .i64 q, .int .i64 r]] w fun e w' => e = .returned (.agg #[.int .i64 (cmpO n m : Nat), .int .i64 (tX m x y + q), .int .i64 (tY m x y + r)]) ∧ Below w.heap.size w w' := by
  have hlt := cmpO_lt n m hn8 hm8
  obtain ⟨⟨t1, t2⟩, t3, t4⟩ := t_bd m x y 10000 hx hx' hy hy'
  have hms := hM.size
  have hmz := hM.ne
  go_enter Tryd.func56, Tryd.ntmps56
  go_wp2_with fail
  refine (tImage_any m q r x y _ hm8 (Mats.below hM (by (repeat (first | (with_reducible exact Below.refl _ _) | (with_reducible refine Ext.drewN ?_ _) | (with_reducible refine Below.drew ?_) | (with_reducible refine Ext.alloc ?_ _) | (with_reducible refine Ext.setCell ?_ (by simp; try omega) _) | (with_reducible refine Ext.trans ?_ (by assumption)) | (with_reducible assumption) | exact Below.refl _ _))) hM.size) (by omega) (by omega) (by omega) (by omega) (by omega) (by omega) (by omega) (by omega)).mono ?_
  rintro e w3 ⟨rfl, bw3⟩
  obtain ⟨sw3, zw3, cw3, fw3⟩ := bcell bw3; (try simp only [World.size_alloc, World.size_setCell, World.size_drew] at sw3)
  go_wp2_with fail
  have y0 : w3.cell? ⟨w.heap.size, 0, none⟩ = some (.int .i64 n) := by simp [*, go_sem]
  have y1 : w3.cell? ⟨w.heap.size, 1, none⟩ = some (.int .i64 x) := by simp [*, go_sem]
  have y2 : w3.cell? ⟨w.heap.size, 2, none⟩ = some (.int .i64 y) := by simp [*, go_sem]
  have y3 : w3.cell? ⟨w.heap.size + 1, 0, none⟩ = some (.int .i64 m) := by simp [*, go_sem]
  have y4 : w3.cell? ⟨w.heap.size + 1, 1, none⟩ = some (.int .i64 q) := by simp [*, go_sem]
  have y5 : w3.cell? ⟨w.heap.size + 1, 2, none⟩ = some (.int .i64 r) := by simp [*, go_sem]
  have y6 : w3.cell? ⟨w.heap.size + 1 + 1, 0, none⟩ = some (.int .i64 0) := by simp [*, go_sem]
  have y7 : w3.cell? ⟨w.heap.size + 1 + 1, 1, none⟩ = some (.int .i64 0) := by simp [*, go_sem]
  have y8 : w3.cell? ⟨w.heap.size + 1 + 1, 2, none⟩ = some (.int .i64 0) := by simp [*, go_sem]
  have f0 : w3.frozen? ⟨w.heap.size + 1 + 1, 0, none⟩ = false := by simp [*, go_sem]
  have f1 : w3.frozen? ⟨w.heap.size + 1 + 1, 1, none⟩ = false := by simp [*, go_sem]
  have f2 : w3.frozen? ⟨w.heap.size + 1 + 1, 2, none⟩ = false := by simp [*, go_sem]
  have B3 : Below w.heap.size w w3 := by (repeat (first | (with_reducible exact Below.refl _ _) | (with_reducible refine Ext.drewN ?_ _) | (with_reducible refine Below.drew ?_) | (with_reducible refine Ext.alloc ?_ _) | (with_reducible refine Ext.setCell ?_ (by simp; try omega) _) | (with_reducible refine Ext.trans ?_ (by assumption)) | (with_reducible assumption) | exact Below.refl _ _))
  have l0 : w.heap.size < w3.heap.size := by omega
  have l1 : w.heap.size + 1 < w3.heap.size := by omega
  have k0 : w.heap.size + 1 + 1 < w3.heap.size := by omega
  clear bw3 zw3 cw3 fw3
  obtain ⟨w4, hw4⟩ : ∃ w4, w4 = w3.alloc (.cells #[.int .i64 (tX m x y + q), .int .i64 (tY m x y + r)] 44) := ⟨_, rfl⟩
  have B4 := Lib.hid (show Below w3.heap.size w3 w4 by rw [hw4]; (repeat (first | (with_reducible exact Below.refl _ _) | (with_reducible refine Ext.drewN ?_ _) | (with_reducible refine Below.drew ?_) | (with_reducible refine Ext.alloc ?_ _) | (with_reducible refine Ext.setCell ?_ (by simp; try omega) _) | (with_reducible refine Ext.trans ?_ (by assumption)) | (with_reducible assumption) | exact Below.refl _ _)))
  have FC : Hid (∀ W, Below w4.heap.size w4 W → (fun W => W.cell? ⟨w.heap.size, 0, none⟩ = some (.int .i64 n) ∧ W.cell? ⟨w.heap.size, 1, none⟩ = some (.int .i64 x) ∧ W.cell? ⟨w.heap.size, 2, none⟩ = some (.int .i64 y) ∧ W.cell? ⟨w.heap.size + 1, 0, none⟩ = some (.int .i64 m) ∧ W.cell? ⟨w.heap.size + 1, 1, none⟩ = some (.int .i64 q) ∧ W.cell? ⟨w.heap.size + 1, 2, none⟩ = some (.int .i64 r) ∧ W.cell? ⟨w3.heap.size, 0, none⟩ = some (.int .i64 (tX m x y + q)) ∧ W.cell? ⟨w3.heap.size, 1, none⟩ = some (.int .i64 (tY m x y + r))) W) := Lib.hid fun W hW => by
    refine ⟨keepC hW (keepC B4.out y0), keepC hW (keepC B4.out y1), keepC hW (keepC B4.out y2), keepC hW (keepC B4.out y3), keepC hW (keepC B4.out y4), keepC hW (keepC B4.out y5), keepC hW (by rw [hw4]; simp [go_sem]), keepC hW (by rw [hw4]; simp [go_sem])⟩
  have HB3 := Lib.hid B3
  have HK := Lib.hid (FC.out w4 (Below.refl _ _))
  have G6 := Lib.hid (fun W (hW : Below w4.heap.size w4 W) => show W.cell? ⟨w.heap.size + 1 + 1, 0, none⟩ = some (.int .i64 0) ∧ W.cell? ⟨w.heap.size + 1 + 1, 1, none⟩ = some (.int .i64 0) ∧ W.cell? ⟨w.heap.size + 1 + 1, 2, none⟩ = some (.int .i64 0) ∧ W.frozen? ⟨w.heap.size + 1 + 1, 0, none⟩ = false ∧ W.frozen? ⟨w.heap.size + 1 + 1, 1, none⟩ = false ∧ W.frozen? ⟨w.heap.size + 1 + 1, 2, none⟩ = false from
    have s4 := B4.out.size
    ⟨keepC hW (keepC B4.out y6), keepC hW (keepC B4.out y7), keepC hW (keepC B4.out y8), fzC hW (fzC B4.out f0 k0) (Nat.lt_of_lt_of_le k0 s4), fzC hW (fzC B4.out f1 k0) (Nat.lt_of_lt_of_le k0 s4), fzC hW (fzC B4.out f2 k0) (Nat.lt_of_lt_of_le k0 s4)⟩)
  rw [← hw4]
  clear y0 y1 y2 y3 y4 y5 y6 y7 y8 f0 f1 f2 B3 hw4
  have hmix : Tryd.prog.follows .mixedOrders = true := by kernel_rfl
  refine (wpIn_wide (n := 9)).1 (regionQ (S := fun W => W.cell? ⟨w.heap.size, 0, none⟩ = some (.int .i64 n) ∧ W.cell? ⟨w.heap.size, 1, none⟩ = some (.int .i64 x) ∧ W.cell? ⟨w.heap.size, 2, none⟩ = some (.int .i64 y) ∧ W.cell? ⟨w.heap.size + 1, 0, none⟩ = some (.int .i64 m) ∧ W.cell? ⟨w.heap.size + 1, 1, none⟩ = some (.int .i64 q) ∧ W.cell? ⟨w.heap.size + 1, 2, none⟩ = some (.int .i64 r) ∧ W.cell? ⟨w3.heap.size, 0, none⟩ = some (.int .i64 (tX m x y + q)) ∧ W.cell? ⟨w3.heap.size, 1, none⟩ = some (.int .i64 (tY m x y + r))) hmix ?_)
  refine takeP (i := 0) (.agg #[.int .i64 n, .int .i64 x, .int .i64 y]) rfl (by kernel_rfl) (by kernel_rfl) (by kernel_rfl) (fun _ _ _ h => h) (by rfl) ?_ (fun _ => rfl) HK.out ?_
  · intro w' h9
    simp [go_sem, h9, Act.put]
  simp only [go_sem, Act.put]
  refine takeP (i := 2) (.agg #[.int .i64 m, .int .i64 q, .int .i64 r]) rfl (by kernel_rfl) (by kernel_rfl) (by kernel_rfl) (fun _ _ _ h => h) (by rfl) ?_ (fun _ => rfl) HK.out ?_
  · intro w' h9
    simp [go_sem, h9, Act.put]
  simp only [go_sem, Act.put]
  refine takeP (i := 5) (.pointer (some ⟨w3.heap.size, 0, none⟩)) rfl (by kernel_rfl) (by kernel_rfl) (by kernel_rfl) (fun _ _ _ h => h) (by rfl) ?_ (fun _ => rfl) HK.out ?_
  · intro w' h9
    simp [go_sem, h9, Act.put]
  simp only [go_sem, Act.put]
  refine takeP (i := 6) (.int .i64 (tX m x y + q)) rfl (by kernel_rfl) (by kernel_rfl) (by kernel_rfl) (fun _ _ _ h => h) (by rfl) ?_ (fun _ => rfl) HK.out ?_
  · intro w' h9
    simp [go_sem, h9, Act.put]
  simp only [go_sem, Act.put]
  refine takeP (i := 7) (.pointer (some ⟨w3.heap.size, 1, none⟩)) rfl (by kernel_rfl) (by kernel_rfl) (by kernel_rfl) (fun _ _ _ h => h) (by rfl) ?_ (fun _ => rfl) HK.out ?_
  · intro w' h9
    simp [go_sem, h9, Act.put]
  simp only [go_sem, Act.put]
  refine takeP (i := 8) (.int .i64 (tY m x y + r)) rfl (by kernel_rfl) (by kernel_rfl) (by kernel_rfl) (fun _ _ _ h => h) (by rfl) ?_ (fun _ => rfl) HK.out ?_
  · intro w' h9
    simp [go_sem, h9, Act.put]
  simp only [go_sem, Act.put]
  refine callP (i := 1) (f := 57) (args := #[.agg #[.int .i64 n, .int .i64 x, .int .i64 y]]) (by kernel_rfl) rfl (by rfl) (by simp [go_sem, Act.put]) ?_
  refine (orientation_any _ _ _ _).mono ?_
  rintro e v1 ⟨rfl, bv1⟩
  have Bv1 := Lib.hid (show Below w4.heap.size w4 v1 from Ext.trans ((Below.refl _ _).drew) bv1)
  have HKv1 := Lib.hid (FC.out v1 Bv1.out)
  refine ⟨_, rfl, HKv1.out, ?_⟩
  simp only [go_sem, Act.put]
  refine callP (i := 3) (f := 57) (args := #[.agg #[.int .i64 m, .int .i64 q, .int .i64 r]]) (by kernel_rfl) rfl (by rfl) (by simp [go_sem, Act.put]) ?_
  refine (orientation_any _ _ _ _).mono ?_
  rintro e v2 ⟨rfl, bv2⟩
  have Bv2 := Lib.hid (show Below w4.heap.size w4 v2 from Ext.trans Bv1.out bv2)
  have HKv2 := Lib.hid (FC.out v2 Bv2.out)
  refine ⟨_, rfl, HKv2.out, ?_⟩
  simp only [go_sem, Act.put]
  refine callP (i := 4) (f := 88) (args := #[.int .i64 n, .int .i64 m]) (by kernel_rfl) rfl (by rfl) (by simp [go_sem, Act.put]) ?_
  refine (then_any n m _ hn8 hm8 (Mats.below hM (HB3.out.trans ((B4.out.trans (Bv2.out.mono B4.out.size)).mono HB3.out.size)) hM.size)).mono ?_
  rintro e v3 ⟨rfl, bv3⟩
  have Bv3 := Lib.hid (show Below w4.heap.size w4 v3 from Ext.trans Bv2.out bv3)
  have HKv3 := Lib.hid (FC.out v3 Bv3.out)
  refine ⟨_, rfl, HKv3.out, ?_⟩
  simp only [go_sem, Act.put]
  refine takeP (i := 9) (.agg #[.int .i64 (cmpO n m : Nat), .int .i64 (tX m x y + q), .int .i64 (tY m x y + r)]) rfl (by kernel_rfl) (by kernel_rfl) (by kernel_rfl) (fun _ _ _ h => h) (by rfl) ?_ (fun _ => rfl) HKv3.out ?_
  · intro w' h9
    simp [go_sem, h9, Act.put]
  simp only [go_sem, Act.put]
  obtain ⟨g0, g1, g2, h0, h1, h2⟩ := G6.out v3 Bv3.out
  refine stepP (i := 10) (w' := ((v3.setCell ⟨w.heap.size + 1 + 1, 0, none⟩ (.int .i64 (cmpO n m : Nat))).setCell ⟨w.heap.size + 1 + 1, 1, none⟩ (.int .i64 (tX m x y + q))).setCell ⟨w.heap.size + 1 + 1, 2, none⟩ (.int .i64 (tY m x y + r))) (by kernel_rfl) rfl (by rfl) (by simp [go_sem, Act.put, g0, g1, g2, h0, h1, h2]) ?_ ?_
  · have k := HKv3.out
    refine ⟨?_, ?_, ?_, ?_, ?_, ?_, ?_, ?_⟩ <;> simp [go_sem, k] <;> omega
  simp only [go_sem, Act.put]
  refine doneQ (by kernel_rfl) ?_ _
  go_wp2_with fail
  refine bodyPost_ret (v := .agg #[.int .i64 (cmpO n m : Nat), .int .i64 (tX m x y + q), .int .i64 (tY m x y + r)]) (by simp [*, results, Tryd.results56, go_sem]) rfl ⟨rfl, ?_⟩
  have b := HB3.out.trans ((B4.out.trans (Bv3.out.mono B4.out.size)).mono HB3.out.size)
  (repeat (first | (with_reducible exact Below.refl _ _) | (with_reducible refine Ext.drewN ?_ _) | (with_reducible refine Below.drew ?_) | (with_reducible refine Ext.alloc ?_ _) | (with_reducible refine Ext.setCell ?_ (by simp; try omega) _) | (with_reducible refine Ext.trans ?_ (by assumption)) | (with_reducible assumption) | exact Below.refl _ _))
end Go.Proofs.YtciodcknobccdaaDoor
