/- A drawn transform and a drawn list. Condition: the code's bytes are in memory. -/
import Derived.Test.YtmabdemdapnmkaaGreatDoorMgA
import Derived.Test.YtmabdemdapnmkaaGreatDoorSzT
import Derived.Test.YtmabdemdapnmkaaGreatDoorDrZ
namespace Go.Proofs.YtmabdemdapnmkaaGreatDoor
open Go.RowKit
set_option linter.unusedVariables false
set_option linter.unusedSimpArgs false

theorem set_blockM {W : World} {b j : Nat} {cs : Array Value} {t : TypeId} {fr : Nat × Nat} (h : W.heap[b]? = some (.cells cs t fr)) (v : Value) : (W.setCell ⟨b, j, none⟩ v).heap[b]? = some (.cells (cs.setIfInBounds j v) t fr) := by
  simp [World.setCell, Array.getElem?_modify, h]
theorem set_otherM {W : World} {b j k : Nat} (h : k ≠ b) (v : Value) : (W.setCell ⟨b, j, none⟩ v).heap[k]? = W.heap[k]? := Below.heap_setCell _ _ _ _ h
/-- A transform lies in block g. -/
def BoxT' (w : World) (g : Nat) (o x y : Int) : Prop := w.heap[g]? = some (.cells #[.int .i64 o, .int .i64 x, .int .i64 y] 38 (0, 0))
theorem BoxT'.ext {w w' : World} {g : Nat} {o x y : Int} (h : BoxT' w g o x y) (hb : Below w.heap.size w w') : BoxT' w' g o x y := (hb.block g (blk_lt h)).trans h
theorem BoxT'.cell0 {w : World} {g : Nat} {o x y : Int} (h : BoxT' w g o x y) : w.cell? ⟨g, 0, none⟩ = some (.int .i64 o) := by rw [cell_of_row _ _ 0 _ _ _ h]; rfl
theorem BoxT'.cell1 {w : World} {g : Nat} {o x y : Int} (h : BoxT' w g o x y) : w.cell? ⟨g, 1, none⟩ = some (.int .i64 x) := by rw [cell_of_row _ _ 1 _ _ _ h]; rfl
theorem BoxT'.cell2 {w : World} {g : Nat} {o x y : Int} (h : BoxT' w g o x y) : w.cell? ⟨g, 2, none⟩ = some (.int .i64 y) := by rw [cell_of_row _ _ 2 _ _ _ h]; rfl
/-- A drawn transform and a drawn list. -/
def DrawnTL (w : World) (e : Ending) (w' : World) : Prop :=
  ∃ (o x y : Int) (h c : Nat) (l : List R4), ((0 ≤ o ∧ o ≤ 7) ∧ (-100 ≤ x ∧ x ≤ 100) ∧ (-100 ≤ y ∧ y ≤ 100)) ∧ e = .returned (.tuple #[.agg #[.int .i64 o, .int .i64 x, .int .i64 y], .slice (some ⟨h, 0, none⟩) l.length c]) ∧ l.length ≤ 3284 ∧ RecIs w.heap.size w' h l ∧ Below w.heap.size w w'
set_option maxHeartbeats 4000000 in
theorem drawMoveRegion_any (a : Option Addr) (len cap : Nat) (w : World) (hlen : len ≤ 8192) (hC : CodeIs w.heap.size w a len) :
    Calls Tryz.prog 18 #[.slice a len cap] w (DrawnTL w) := by
  go_enter Tryz.func18, Tryz.ntmps18
  go_wp2_with fail
  refine (l01From_any w.heap.size a len cap _ hlen (by simp) (hC.alloc (Nat.le_refl _) _)).mono ?_
  rintro e w1 ⟨g, hg0, hg1, rfl, bw1, hS1⟩
  simp only [World.size_alloc] at hg0
  have B1 : Below w.heap.size w w1 := by (repeat (first | (with_reducible exact Below.refl _ _) | (with_reducible refine Ext.drewN ?_ _) | (with_reducible refine Below.drew ?_) | (with_reducible refine Ext.alloc ?_ _) | (with_reducible refine Ext.setCell ?_ (by simp; try omega) _) | (with_reducible refine Ext.trans ?_ (by assumption)) | (with_reducible assumption) | exact Below.refl _ _))
  have hC1 : CodeIs w.heap.size w1 a len := hC.below B1
  have s1 := bw1.size
  simp only [World.size_alloc] at s1
  have z0 : w1.heap[w.heap.size]? = some (.cells #[.int .i64 0, .int .i64 0, .int .i64 0] 38 (0, 0)) := (bw1.block _ (by simp)).trans (heap_alloc_new _ _)
  clear bw1
  go_wp2_with fail
  refine (drawT_any w.heap.size g a len cap _ hlen (by omega) (by omega) hC1 hS1).mono ?_
  rintro e w2 ⟨tr, x, y, ho, hx, hy, rfl, on2, hS2⟩
  have s2 := on2.size
  have hC2 := hC1.only on2 (by omega) (by omega)
  have z0 := (on2.block _ (by omega) (fun e => by have : w.heap.size = g := (by simpa using e); omega)).trans z0
  have hgl2 : g < w2.heap.size := by omega
  obtain ⟨w3, hw3⟩ : ∃ w3, w3 = w2.alloc (.cells #[.int .i64 tr, .int .i64 x, .int .i64 y] 38) := ⟨_, rfl⟩
  have b3 : Below w2.heap.size w2 w3 := by rw [hw3]; (repeat (first | (with_reducible exact Below.refl _ _) | (with_reducible refine Ext.drewN ?_ _) | (with_reducible refine Below.drew ?_) | (with_reducible refine Ext.alloc ?_ _) | (with_reducible refine Ext.setCell ?_ (by simp; try omega) _) | (with_reducible refine Ext.trans ?_ (by assumption)) | (with_reducible assumption) | exact Below.refl _ _))
  have s3 : w3.heap.size = w2.heap.size + 1 := by rw [hw3]; simp
  have y0 : w3.heap[w2.heap.size]? = some (.cells #[.int .i64 tr, .int .i64 x, .int .i64 y] 38 (0, 0)) := by rw [hw3]; exact heap_alloc_new _ _
  have z0 := (b3.block _ (by omega)).trans z0
  have A3 : SrcAt w.heap.size g w3 w3 a len cap := by
    have h9 : SrcAt w.heap.size g w2 w3 a len cap := by
      rw [hw3]
      exact (show SrcAt w.heap.size g w2 w2 a len cap from ⟨Only.refl _ _, hS2, hC2, by omega⟩).ext ((Below.refl _ _).alloc (Nat.le_refl _) _)
    exact h9.rebase
  have B3 : Below w.heap.size w w3 := Ext.trans (Only.below B1 on2 (by omega) (by omega)) b3
  have hmix : Tryz.prog.follows .mixedOrders = true := by kernel_rfl
  go_upto_region 3 with fail
  rw [← hw3]
  have A3 := Lib.hid A3
  have B3 := Lib.hid B3
  clear hw3 b3 hS1 hS2 hC1 hC2 on2 B1 hC
  refine (wpIn_wide (n := 9)).1 ?_
  gi_wp2
  have fz := fun j => frozen_of_row _ _ j _ _ z0
  have c0 : w3.cell? ⟨w2.heap.size, 0, none⟩ = some (.int .i64 tr) := by rw [cell_of_row _ _ 0 _ _ _ y0]; rfl
  have c1 : w3.cell? ⟨w2.heap.size, 1, none⟩ = some (.int .i64 x) := by rw [cell_of_row _ _ 1 _ _ _ y0]; rfl
  have c2 : w3.cell? ⟨w2.heap.size, 2, none⟩ = some (.int .i64 y) := by rw [cell_of_row _ _ 2 _ _ _ y0]; rfl
  refine regionT (S := fun w' => w'.heap[w2.heap.size]? = some (.cells #[.int .i64 tr, .int .i64 x, .int .i64 y] 38 (0, 0))) (tl := fun _ => false) hmix ?_
  have hS : w3.drew.heap[w2.heap.size]? = some (.cells #[.int .i64 tr, .int .i64 x, .int .i64 y] 38 (0, 0)) := y0
  refine takeT (i := 0) (.agg #[.int .i64 tr, .int .i64 x, .int .i64 y]) rfl (by kernel_rfl) (by kernel_rfl) (by kernel_rfl) (by kernel_rfl) (by kernel_rfl) (fun _ _ _ h => h) (by rfl) ?_ (fun _ => rfl) hS ?_
  · intro w' h9
    have d0 : w'.cell? ⟨w2.heap.size, 0, none⟩ = some (.int .i64 tr) := by rw [cell_of_row _ _ 0 _ _ _ h9]; rfl
    have d1 : w'.cell? ⟨w2.heap.size, 1, none⟩ = some (.int .i64 x) := by rw [cell_of_row _ _ 1 _ _ _ h9]; rfl
    have d2 : w'.cell? ⟨w2.heap.size, 2, none⟩ = some (.int .i64 y) := by rw [cell_of_row _ _ 2 _ _ _ h9]; rfl
    simp [go_sem, d0, d1, d2, Act.put]
  simp only [go_sem, Act.put, List.getElem_toArray, List.getElem_cons_succ, List.getElem_cons_zero, List.setIfInBounds_toArray, List.set_cons_succ, List.set_cons_zero]
  refine takeT (i := 1) (.pointer (some ⟨g, 0, none⟩)) rfl (by kernel_rfl) (by kernel_rfl) (by kernel_rfl) (by kernel_rfl) (by kernel_rfl) (fun _ _ _ h => h) (by rfl) ?_ (fun _ => rfl) hS ?_
  · intro w' h9
    have d0 : w'.cell? ⟨w2.heap.size, 0, none⟩ = some (.int .i64 tr) := by rw [cell_of_row _ _ 0 _ _ _ h9]; rfl
    have d1 : w'.cell? ⟨w2.heap.size, 1, none⟩ = some (.int .i64 x) := by rw [cell_of_row _ _ 1 _ _ _ h9]; rfl
    have d2 : w'.cell? ⟨w2.heap.size, 2, none⟩ = some (.int .i64 y) := by rw [cell_of_row _ _ 2 _ _ _ h9]; rfl
    simp [go_sem, d0, d1, d2, Act.put]
  simp only [go_sem, Act.put, List.getElem_toArray, List.getElem_cons_succ, List.getElem_cons_zero, List.setIfInBounds_toArray, List.set_cons_succ, List.set_cons_zero]
  refine takeT (i := 2) (.pointer (some ⟨g, 0, none⟩)) rfl (by kernel_rfl) (by kernel_rfl) (by kernel_rfl) (by kernel_rfl) (by kernel_rfl) (fun _ _ _ h => h) (by rfl) ?_ (fun _ => rfl) hS ?_
  · intro w' h9
    have d0 : w'.cell? ⟨w2.heap.size, 0, none⟩ = some (.int .i64 tr) := by rw [cell_of_row _ _ 0 _ _ _ h9]; rfl
    have d1 : w'.cell? ⟨w2.heap.size, 1, none⟩ = some (.int .i64 x) := by rw [cell_of_row _ _ 1 _ _ _ h9]; rfl
    have d2 : w'.cell? ⟨w2.heap.size, 2, none⟩ = some (.int .i64 y) := by rw [cell_of_row _ _ 2 _ _ _ h9]; rfl
    simp [go_sem, d0, d1, d2, Act.put]
  simp only [go_sem, Act.put, List.getElem_toArray, List.getElem_cons_succ, List.getElem_cons_zero, List.setIfInBounds_toArray, List.set_cons_succ, List.set_cons_zero]
  refine oneN (i := 3) (by kernel_rfl) (wpOpIn_step rfl fun K' hK' => ?_)
  rw [if_pos (by rfl)]
  refine ⟨fun _ _ => trivial, ?_⟩
  simp only [go_sem, Act.put]
  simp [go_sem, enters_of Tryz.func41 (by kernel_rfl) rfl]
  refine (callsIn_wide.2 (drawRegion_any w.heap.size g a len cap w3 _ hlen (by omega) (by omega) (show SrcAt w.heap.size g w3 w3.drew a len cap from ⟨A3.out.1.drew, A3.out.2.1, A3.out.2.2.1, A3.out.2.2.2⟩))).mono ?_
  rintro e w4 ⟨h4, c4, f4, rfl, hI4, hA4⟩
  have y4 := (hA4.1.block w2.heap.size (by omega) (fun e => by have : w2.heap.size = g := (by simpa using e); omega)).trans y0
  have z4 := (hA4.1.block w.heap.size (by omega) (fun e => by have : w.heap.size = g := (by simpa using e); omega)).trans z0
  have n4 := canonL_len f4
  have s4 := hA4.1.size
  have I4 := Lib.hid hI4
  have A4 := Lib.hid hA4.rebase
  have O4 := Lib.hid hA4.1
  dsimp only
  refine hK' _ _ ⟨y4, ?_⟩
  clear hK' hI4 hA4 hS
  refine oneN (i := 4) (by kernel_rfl) (wpOpIn_step rfl fun K' hK' => ?_)
  rw [if_pos (by rfl)]
  refine ⟨fun _ _ => trivial, ?_⟩
  simp only [go_sem, Act.put]
  simp [go_sem, enters_of Tryz.func40 (by kernel_rfl) rfl]
  refine (callsIn_wide.2 (spoil_any w3.heap.size w.heap.size g h4 c4 (canonL f4) 12 a len cap w4 w4 hlen (by omega) (by omega) A4.out (by omega) s4 n4 I4.out (by omega) (by omega))).mono ?_
  rintro e w5 ⟨h5, c5, l5, rfl, n5, hI5, hA5⟩
  have y5 := (hA5.1.block w2.heap.size (by omega) (fun e => by have : w2.heap.size = g := (by simpa using e); omega)).trans y4
  have z5 := (hA5.1.block w.heap.size (by omega) (fun e => by have : w.heap.size = g := (by simpa using e); omega)).trans z4
  have I5 := Lib.hid hI5
  have O5 := Lib.hid (O4.out.trans hA5.1)
  have s5 := hA5.1.size
  dsimp only
  refine hK' _ _ ⟨y5, ?_⟩
  clear hK' hI5 hA5
  have r0 : w5.cell? ⟨w.heap.size, 0, none⟩ = some (.int .i64 0) := by rw [cell_of_row _ _ 0 _ _ _ z5]; rfl
  have r1 : w5.cell? ⟨w.heap.size, 1, none⟩ = some (.int .i64 0) := by rw [cell_of_row _ _ 1 _ _ _ z5]; rfl
  have r2 : w5.cell? ⟨w.heap.size, 2, none⟩ = some (.int .i64 0) := by rw [cell_of_row _ _ 2 _ _ _ z5]; rfl
  have e0 := frozen_of_row _ _ 0 _ _ z5
  have e1 := frozen_of_row _ _ 1 _ _ z5
  have e2 := frozen_of_row _ _ 2 _ _ z5
  refine oneN (i := 5) (by kernel_rfl) (wpOpIn_step rfl fun K' hK' => ?_)
  rw [if_pos (by rfl)]
  refine ⟨fun _ _ => trivial, ?_⟩
  simp only [go_sem, Act.put]
  simp [go_sem, r0, r1, r2, e0, e1, e2]
  refine hK' _ _ ⟨(set_otherM (by omega) _).trans ((set_otherM (by omega) _).trans ((set_otherM (by omega) _).trans y5)), ?_⟩
  clear hK'
  refine oneN (i := 6) (by kernel_rfl) (wpOpIn_step rfl fun K' hK' => ?_)
  rw [if_pos (by rfl)]
  refine ⟨fun _ _ => trivial, ?_⟩
  simp only [go_sem, Act.put]
  simp [go_sem]
  refine hK' _ _ ⟨(set_otherM (by omega) _).trans ((set_otherM (by omega) _).trans ((set_otherM (by omega) _).trans y5)), ?_⟩
  clear hK'
  refine doneT (by kernel_rfl) ?_ _
  gi_wp2
  obtain ⟨wF, hwF⟩ : ∃ wF, wF = ((w5.setCell ⟨w.heap.size, 0, none⟩ (.int .i64 tr)).setCell ⟨w.heap.size, 1, none⟩ (.int .i64 x)).setCell ⟨w.heap.size, 2, none⟩ (.int .i64 y) := ⟨_, rfl⟩
  have zF : wF.heap[w.heap.size]? = some (.cells #[.int .i64 tr, .int .i64 x, .int .i64 y] 38 (0, 0)) := by rw [hwF]; exact set_blockM (set_blockM (set_blockM z5 _) _) _
  have v0 : wF.cell? ⟨w.heap.size, 0, none⟩ = some (.int .i64 tr) := by rw [cell_of_row _ _ 0 _ _ _ zF]; rfl
  have v1 : wF.cell? ⟨w.heap.size, 1, none⟩ = some (.int .i64 x) := by rw [cell_of_row _ _ 1 _ _ _ zF]; rfl
  have v2 : wF.cell? ⟨w.heap.size, 2, none⟩ = some (.int .i64 y) := by rw [cell_of_row _ _ 2 _ _ _ zF]; rfl
  have IF := Lib.hid ((I5.out.only (by rw [hwF]; exact (((Only.refl w.heap.size w5).set _).set _).set _ : Only w.heap.size w5 wF) (by omega)).lower (show w.heap.size ≤ w3.heap.size by omega))
  have BF : Below w.heap.size w wF := by
    rw [hwF]
    exact (((Only.below B3.out O5.out (by omega) (by omega)).setCell (Nat.le_refl _) _).setCell (Nat.le_refl _) _).setCell (Nat.le_refl _) _
  rw [← hwF]
  clear hwF r0 r1 r2 e0 e1 e2 c0 c1 c2 z0 z4 z5 y0 y4 y5
  go_wp2_with fail
  exact bodyPost_ret (v := .tuple #[.agg #[.int .i64 tr, .int .i64 x, .int .i64 y], .slice (some ⟨h5, 0, none⟩) l5.length c5]) (by simp [results, Tryz.results18, go_sem, v0, v1, v2]) rfl ⟨tr, x, y, h5, c5, l5, ⟨ho, hx, hy⟩, rfl, by omega, IF.out, BF⟩
end Go.Proofs.YtmabdemdapnmkaaGreatDoor
