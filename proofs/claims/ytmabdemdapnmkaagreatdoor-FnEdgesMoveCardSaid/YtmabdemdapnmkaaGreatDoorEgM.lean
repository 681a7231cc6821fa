/- MoveEdge. Condition: the variable orientationMatrices holds its table. -/
import Derived.Test.YtmabdemdapnmkaaGreatDoorEgQ
namespace Go.Proofs.YtmabdemdapnmkaaGreatDoor
open Go.RowKit
set_option linter.unusedVariables false
set_option linter.unusedSimpArgs false
attribute [local go_sem ↓] Go.wp_at_zero Go.wp_at_succ

def meB (o x y a b c d : Int) : Bool := vldB o x y && (elB a b c d && (onB (mvX o x y a b) (mvY o x y a b) && onB (mvX o x y c d) (mvY o x y c d)))
def me0 (o x y a b c d : Int) : Int := if meB o x y a b c d = true then (if 4 ≤ o then mvX o x y c d else mvX o x y a b) else 0
def me1 (o x y a b c d : Int) : Int := if meB o x y a b c d = true then (if 4 ≤ o then mvY o x y c d else mvY o x y a b) else 0
def me2 (o x y a b c d : Int) : Int := if meB o x y a b c d = true then (if 4 ≤ o then mvX o x y a b else mvX o x y c d) else 0
def me3 (o x y a b c d : Int) : Int := if meB o x y a b c d = true then (if 4 ≤ o then mvY o x y a b else mvY o x y c d) else 0
def meV (o x y a b c d : Int) : Value := .tuple #[.agg #[.int .i64 (me0 o x y a b c d), .int .i64 (me1 o x y a b c d), .int .i64 (me2 o x y a b c d), .int .i64 (me3 o x y a b c d)], .bool (meB o x y a b c d)]
theorem meV_no {o x y a b c d : Int} (h : meB o x y a b c d = false) : meV o x y a b c d = .tuple #[.agg #[.int .i64 0, .int .i64 0, .int .i64 0, .int .i64 0], .bool false] := by simp [meV, me0, me1, me2, me3, h]
theorem meV_lo {o x y a b c d : Int} (h : meB o x y a b c d = true) (ho : ¬ 4 ≤ o) : meV o x y a b c d = .tuple #[.agg #[.int .i64 (mvX o x y a b), .int .i64 (mvY o x y a b), .int .i64 (mvX o x y c d), .int .i64 (mvY o x y c d)], .bool true] := by simp [meV, me0, me1, me2, me3, h, ho]
theorem meV_hi {o x y a b c d : Int} (h : meB o x y a b c d = true) (ho : 4 ≤ o) : meV o x y a b c d = .tuple #[.agg #[.int .i64 (mvX o x y c d), .int .i64 (mvY o x y c d), .int .i64 (mvX o x y a b), .int .i64 (mvY o x y a b)], .bool true] := by simp [meV, me0, me1, me2, me3, h, ho]
theorem elB_t {a b c d : Int} (h : elB a b c d = true) : onB a b = true ∧ onB c d = true := by
  simp only [elB, Bool.and_eq_true] at h
  exact h.1

theorem cellX {w1 : World} {b o : Nat} {v : Option Value} (h : w1.cell? ⟨b, o, none⟩ = v) (hb : b < w1.heap.size) (O : Obj) : (w1.alloc O).cell? ⟨b, o, none⟩ = v := by
  rw [World.cell?_alloc_lt _ _ _ hb]; exact h
theorem cellU1 {w1 : World} {b o : Nat} {v : Value} {O : Obj} (h : (w1.alloc O).cell? ⟨b, o, none⟩ = some v) (hb : b < w1.heap.size) : w1.cell? ⟨b, o, none⟩ = some v := by
  rw [World.cell?_alloc_lt _ _ _ hb] at h; exact h
theorem cellU2 {w1 : World} {b o : Nat} {v : Value} {O O1 : Obj} (h : ((w1.alloc O).alloc O1).cell? ⟨b, o, none⟩ = some v) (hb : b < w1.heap.size) : w1.cell? ⟨b, o, none⟩ = some v :=
  cellU1 (cellU1 h (by rw [World.size_alloc]; omega)) hb

theorem swapCells {w : World} {g h : Nat} {u0 u1 u2 u3 v0 v1 v2 v3 : Value} (hgh : g ≠ h) (c0 : w.cell? ⟨g, 0, none⟩ = some u0) (c1 : w.cell? ⟨g, 1, none⟩ = some u1) (c2 : w.cell? ⟨h, 0, none⟩ = some u2) (c3 : w.cell? ⟨h, 1, none⟩ = some u3) :
    ((((w.setCell ⟨g, 0, none⟩ v0).setCell ⟨g, 1, none⟩ v1).setCell ⟨h, 0, none⟩ v2).setCell ⟨h, 1, none⟩ v3).cell? ⟨g, 0, none⟩ = some v0 ∧ ((((w.setCell ⟨g, 0, none⟩ v0).setCell ⟨g, 1, none⟩ v1).setCell ⟨h, 0, none⟩ v2).setCell ⟨h, 1, none⟩ v3).cell? ⟨g, 1, none⟩ = some v1 ∧
    ((((w.setCell ⟨g, 0, none⟩ v0).setCell ⟨g, 1, none⟩ v1).setCell ⟨h, 0, none⟩ v2).setCell ⟨h, 1, none⟩ v3).cell? ⟨h, 0, none⟩ = some v2 ∧ ((((w.setCell ⟨g, 0, none⟩ v0).setCell ⟨g, 1, none⟩ v1).setCell ⟨h, 0, none⟩ v2).setCell ⟨h, 1, none⟩ v3).cell? ⟨h, 1, none⟩ = some v3 := by
  have p := pairSet (v0 := v0) (v1 := v1) c0 c1
  have d2 := keepS (keepS c2 (p := ⟨g, 0, none⟩) hgh v0) (p := ⟨g, 1, none⟩) hgh v1
  have d3 := keepS (keepS c3 (p := ⟨g, 0, none⟩) hgh v0) (p := ⟨g, 1, none⟩) hgh v1
  have q := pairSet (v0 := v2) (v1 := v3) d2 d3
  exact ⟨keepS (keepS p.1 (p := ⟨h, 0, none⟩) (Ne.symm hgh) v2) (p := ⟨h, 1, none⟩) (Ne.symm hgh) v3, keepS (keepS p.2 (p := ⟨h, 0, none⟩) (Ne.symm hgh) v2) (p := ⟨h, 1, none⟩) (Ne.symm hgh) v3, q.1, q.2⟩

set_option maxHeartbeats 8000000 in
theorem implMoveEdge_out (o x y a b c d : Int) (w : World) (hM : Mats w) : Calls Tryz.prog 20 #[.agg #[.int .i64 o, .int .i64 x, .int .i64 y], .agg #[.int .i64 a, .int .i64 b, .int .i64 c, .int .i64 d]] w fun e w' => e = .returned (meV o x y a b c d) ∧ Below w.heap.size w w' := by
  have hms := hM.size
  have hmz := hM.ne
  cases h1 : vldB o x y with
  | false =>
    rw [meV_no (by simp [meB, h1])]
    go_enter Tryz.func20, Tryz.ntmps20
    go_wp2_with fail
    go_call (implValid_any) as e w1 ⟨rfl, bw1⟩
    obtain ⟨sw1, zw1, cw1, fw1⟩ := bcell bw1
    try simp only [World.size_alloc, World.size_setCell, World.size_drew] at sw1
    try have lw1_w_0 : w.heap.size < w1.heap.size := by omega
    try have lw1_w_1 : w.heap.size + 1 < w1.heap.size := by omega
    try have lw1_w_2 : w.heap.size + 1 + 1 < w1.heap.size := by omega
    try have lw1_w_3 : w.heap.size + 1 + 1 + 1 < w1.heap.size := by omega
    try have lw1_w_4 : w.heap.size + 1 + 1 + 1 + 1 < w1.heap.size := by omega
    try have lw1_w_5 : w.heap.size + 1 + 1 + 1 + 1 + 1 < w1.heap.size := by omega
    try have lw1_w_6 : w.heap.size + 1 + 1 + 1 + 1 + 1 + 1 < w1.heap.size := by omega
    rw [h1]
    go_wp2_with fail
    refine bodyPost_ret (v := .tuple #[.agg #[.int .i64 0, .int .i64 0, .int .i64 0, .int .i64 0], .bool false]) (by simp [*, results, Tryz.results20, go_sem]) rfl ⟨rfl, ?_⟩
    (repeat (first | (with_reducible exact Below.refl _ _) | (with_reducible refine Ext.drewN ?_ _) | (with_reducible refine Below.drew ?_) | (with_reducible refine Ext.alloc ?_ _) | (with_reducible refine Ext.setCell ?_ (by simp; try omega) _) | (with_reducible refine Ext.trans ?_ (by assumption)) | (with_reducible assumption) | exact Below.refl _ _))
  | true =>
    cases h2 : elB a b c d with
    | false =>
      have he := elV_f h2
      rw [meV_no (by simp [meB, h2])]
      go_enter Tryz.func20, Tryz.ntmps20
      go_wp2_with fail
      go_call (implValid_any) as e w1 ⟨rfl, bw1⟩
      obtain ⟨sw1, zw1, cw1, fw1⟩ := bcell bw1
      try simp only [World.size_alloc, World.size_setCell, World.size_drew] at sw1
      try have lw1_w_0 : w.heap.size < w1.heap.size := by omega
      try have lw1_w_1 : w.heap.size + 1 < w1.heap.size := by omega
      try have lw1_w_2 : w.heap.size + 1 + 1 < w1.heap.size := by omega
      try have lw1_w_3 : w.heap.size + 1 + 1 + 1 < w1.heap.size := by omega
      try have lw1_w_4 : w.heap.size + 1 + 1 + 1 + 1 < w1.heap.size := by omega
      try have lw1_w_5 : w.heap.size + 1 + 1 + 1 + 1 + 1 < w1.heap.size := by omega
      try have lw1_w_6 : w.heap.size + 1 + 1 + 1 + 1 + 1 + 1 < w1.heap.size := by omega
      rw [h1]
      go_wp2_with fail
      go_call (implEdgeLength_any _ _ _ _ _) as e w2 ⟨rfl, bw2⟩
      obtain ⟨sw2, zw2, cw2, fw2⟩ := bcell bw2
      try simp only [World.size_alloc, World.size_setCell, World.size_drew] at sw2
      try have lw2_w_0 : w.heap.size < w2.heap.size := by omega
      try have lw2_w_1 : w.heap.size + 1 < w2.heap.size := by omega
      try have lw2_w_2 : w.heap.size + 1 + 1 < w2.heap.size := by omega
      try have lw2_w_3 : w.heap.size + 1 + 1 + 1 < w2.heap.size := by omega
      try have lw2_w_4 : w.heap.size + 1 + 1 + 1 + 1 < w2.heap.size := by omega
      try have lw2_w_5 : w.heap.size + 1 + 1 + 1 + 1 + 1 < w2.heap.size := by omega
      try have lw2_w_6 : w.heap.size + 1 + 1 + 1 + 1 + 1 + 1 < w2.heap.size := by omega
      try have lw2_w1_0 : w1.heap.size < w2.heap.size := by omega
      try have lw2_w1_1 : w1.heap.size + 1 < w2.heap.size := by omega
      try have lw2_w1_2 : w1.heap.size + 1 + 1 < w2.heap.size := by omega
      try have lw2_w1_3 : w1.heap.size + 1 + 1 + 1 < w2.heap.size := by omega
      try have lw2_w1_4 : w1.heap.size + 1 + 1 + 1 + 1 < w2.heap.size := by omega
      try have lw2_w1_5 : w1.heap.size + 1 + 1 + 1 + 1 + 1 < w2.heap.size := by omega
      try have lw2_w1_6 : w1.heap.size + 1 + 1 + 1 + 1 + 1 + 1 < w2.heap.size := by omega
      rw [he]
      go_wp2_with fail
      refine bodyPost_ret (v := .tuple #[.agg #[.int .i64 0, .int .i64 0, .int .i64 0, .int .i64 0], .bool false]) (by simp [*, results, Tryz.results20, go_sem]) rfl ⟨rfl, ?_⟩
      (repeat (first | (with_reducible exact Below.refl _ _) | (with_reducible refine Ext.drewN ?_ _) | (with_reducible refine Below.drew ?_) | (with_reducible refine Ext.alloc ?_ _) | (with_reducible refine Ext.setCell ?_ (by simp; try omega) _) | (with_reducible refine Ext.trans ?_ (by assumption)) | (with_reducible assumption) | exact Below.refl _ _))
    | true =>
      obtain ⟨ha, hc⟩ := elB_t h2
      obtain ⟨⟨x1, x2⟩, x3, x4⟩ := onB_t ha
      obtain ⟨⟨y1, y2⟩, y3, y4⟩ := onB_t hc
      have he := elV_t h2
      have hne : (elV a b c d == -1) = false := by rw [he]; simp; omega
      clear he
      obtain ⟨⟨i1, i2⟩, ⟨i3, i4⟩, i5, i6⟩ := vldB_t h1
      obtain ⟨n, rfl⟩ : ∃ n : Nat, o = n := ⟨o.toNat, by omega⟩
      have hn8 : n < 8 := by omega
      obtain ⟨V, hV⟩ : ∃ V, V = meV n x y a b c d := ⟨_, rfl⟩
      rw [← hV]
      have HV := Lib.hid hV
      clear hV
      go_enter Tryz.func20, Tryz.ntmps20
      go_wp2_with fail
      go_call (implValid_any) as e w1 ⟨rfl, bw1⟩
      obtain ⟨sw1, zw1, cw1, fw1⟩ := bcell bw1
      try simp only [World.size_alloc, World.size_setCell, World.size_drew] at sw1
      try have lw1_w_0 : w.heap.size < w1.heap.size := by omega
      try have lw1_w_1 : w.heap.size + 1 < w1.heap.size := by omega
      try have lw1_w_2 : w.heap.size + 1 + 1 < w1.heap.size := by omega
      try have lw1_w_3 : w.heap.size + 1 + 1 + 1 < w1.heap.size := by omega
      try have lw1_w_4 : w.heap.size + 1 + 1 + 1 + 1 < w1.heap.size := by omega
      try have lw1_w_5 : w.heap.size + 1 + 1 + 1 + 1 + 1 < w1.heap.size := by omega
      try have lw1_w_6 : w.heap.size + 1 + 1 + 1 + 1 + 1 + 1 < w1.heap.size := by omega
      rw [h1]
      go_wp2_with fail
      go_call (implEdgeLength_any _ _ _ _ _) as e w2 ⟨rfl, bw2⟩
      obtain ⟨sw2, zw2, cw2, fw2⟩ := bcell bw2
      try simp only [World.size_alloc, World.size_setCell, World.size_drew] at sw2
      try have lw2_w_0 : w.heap.size < w2.heap.size := by omega
      try have lw2_w_1 : w.heap.size + 1 < w2.heap.size := by omega
      try have lw2_w_2 : w.heap.size + 1 + 1 < w2.heap.size := by omega
      try have lw2_w_3 : w.heap.size + 1 + 1 + 1 < w2.heap.size := by omega
      try have lw2_w_4 : w.heap.size + 1 + 1 + 1 + 1 < w2.heap.size := by omega
      try have lw2_w_5 : w.heap.size + 1 + 1 + 1 + 1 + 1 < w2.heap.size := by omega
      try have lw2_w_6 : w.heap.size + 1 + 1 + 1 + 1 + 1 + 1 < w2.heap.size := by omega
      try have lw2_w1_0 : w1.heap.size < w2.heap.size := by omega
      try have lw2_w1_1 : w1.heap.size + 1 < w2.heap.size := by omega
      try have lw2_w1_2 : w1.heap.size + 1 + 1 < w2.heap.size := by omega
      try have lw2_w1_3 : w1.heap.size + 1 + 1 + 1 < w2.heap.size := by omega
      try have lw2_w1_4 : w1.heap.size + 1 + 1 + 1 + 1 < w2.heap.size := by omega
      try have lw2_w1_5 : w1.heap.size + 1 + 1 + 1 + 1 + 1 < w2.heap.size := by omega
      try have lw2_w1_6 : w1.heap.size + 1 + 1 + 1 + 1 + 1 + 1 < w2.heap.size := by omega
      go_wp2_with fail
      have bw : Below w.heap.size w w2 := by (repeat (first | (with_reducible exact Below.refl _ _) | (with_reducible refine Ext.drewN ?_ _) | (with_reducible refine Below.drew ?_) | (with_reducible refine Ext.alloc ?_ _) | (with_reducible refine Ext.setCell ?_ (by simp; try omega) _) | (with_reducible refine Ext.trans ?_ (by assumption)) | (with_reducible assumption) | exact Below.refl _ _))
      have o0 : w2.cell? ⟨w.heap.size, 0, none⟩ = some (.int .i64 (n : Int)) := by simp [go_sem, *]
      have o1 : w2.cell? ⟨w.heap.size, 1, none⟩ = some (.int .i64 x) := by simp [go_sem, *]
      have o2 : w2.cell? ⟨w.heap.size, 2, none⟩ = some (.int .i64 y) := by simp [go_sem, *]
      have o3 : w2.cell? ⟨w.heap.size + 1, 0, none⟩ = some (.int .i64 a) := by simp [go_sem, *]
      have o4 : w2.cell? ⟨w.heap.size + 1, 1, none⟩ = some (.int .i64 b) := by simp [go_sem, *]
      have o5 : w2.cell? ⟨w.heap.size + 1, 2, none⟩ = some (.int .i64 c) := by simp [go_sem, *]
      have o6 : w2.cell? ⟨w.heap.size + 1, 3, none⟩ = some (.int .i64 d) := by simp [go_sem, *]
      have o7 : w2.cell? ⟨w.heap.size + 1 + 1, 0, none⟩ = some (.int .i64 0) := by simp [go_sem, *]
      have o8 : w2.cell? ⟨w.heap.size + 1 + 1, 1, none⟩ = some (.int .i64 0) := by simp [go_sem, *]
      have o9 : w2.cell? ⟨w.heap.size + 1 + 1, 2, none⟩ = some (.int .i64 0) := by simp [go_sem, *]
      have o10 : w2.cell? ⟨w.heap.size + 1 + 1, 3, none⟩ = some (.int .i64 0) := by simp [go_sem, *]
      have p0 : w2.frozen? ⟨w.heap.size + 1 + 1, 0, none⟩ = false := by simp [go_sem, *]
      have p1 : w2.frozen? ⟨w.heap.size + 1 + 1, 1, none⟩ = false := by simp [go_sem, *]
      have p2 : w2.frozen? ⟨w.heap.size + 1 + 1, 2, none⟩ = false := by simp [go_sem, *]
      have p3 : w2.frozen? ⟨w.heap.size + 1 + 1, 3, none⟩ = false := by simp [go_sem, *]
      replace hM : Mats w2 := hM.below bw hms
      clear cw1 cw2 fw1 fw2
      go_cut [6, 7] (fun s6 s7 wx => ∃ g h : Nat, s6 = .pointer (some ⟨g, 0, none⟩) ∧ s7 = .pointer (some ⟨h, 0, none⟩) ∧ g ≠ h ∧ w2.heap.size ≤ g ∧ w2.heap.size ≤ h ∧ wx.cell? ⟨g, 0, none⟩ = some (.int .i64 (mvX n x y a b)) ∧ wx.cell? ⟨g, 1, none⟩ = some (.int .i64 (mvY n x y a b)) ∧ wx.cell? ⟨h, 0, none⟩ = some (.int .i64 (mvX n x y c d)) ∧ wx.cell? ⟨h, 1, none⟩ = some (.int .i64 (mvY n x y c d)) ∧ wx.frozen? ⟨g, 0, none⟩ = false ∧ wx.frozen? ⟨g, 1, none⟩ = false ∧ wx.frozen? ⟨h, 0, none⟩ = false ∧ wx.frozen? ⟨h, 1, none⟩ = false ∧ Below w2.heap.size w2 wx)
      case first =>
        have hx0 : ∀ w', Below w2.heap.size w2 w' → w'.cell? ⟨w.heap.size, 0, none⟩ = some (.int .i64 (n : Int)) := fun w' h => (h.cell (p := ⟨w.heap.size, 0, none⟩) (World.block_lt_of_cell? w2 ⟨w.heap.size, 0, none⟩ o0)).trans o0
        have hx1 : ∀ w', Below w2.heap.size w2 w' → w'.cell? ⟨w.heap.size, 1, none⟩ = some (.int .i64 x) := fun w' h => (h.cell (p := ⟨w.heap.size, 1, none⟩) (World.block_lt_of_cell? w2 ⟨w.heap.size, 1, none⟩ o1)).trans o1
        have hx2 : ∀ w', Below w2.heap.size w2 w' → w'.cell? ⟨w.heap.size, 2, none⟩ = some (.int .i64 y) := fun w' h => (h.cell (p := ⟨w.heap.size, 2, none⟩) (World.block_lt_of_cell? w2 ⟨w.heap.size, 2, none⟩ o2)).trans o2
        have hx3 : ∀ w', Below w2.heap.size w2 w' → w'.cell? ⟨w.heap.size + 1, 0, none⟩ = some (.int .i64 a) := fun w' h => (h.cell (p := ⟨w.heap.size + 1, 0, none⟩) (World.block_lt_of_cell? w2 ⟨w.heap.size + 1, 0, none⟩ o3)).trans o3
        have hx4 : ∀ w', Below w2.heap.size w2 w' → w'.cell? ⟨w.heap.size + 1, 1, none⟩ = some (.int .i64 b) := fun w' h => (h.cell (p := ⟨w.heap.size + 1, 1, none⟩) (World.block_lt_of_cell? w2 ⟨w.heap.size + 1, 1, none⟩ o4)).trans o4
        have hx5 : ∀ w', Below w2.heap.size w2 w' → w'.cell? ⟨w.heap.size + 1, 2, none⟩ = some (.int .i64 c) := fun w' h => (h.cell (p := ⟨w.heap.size + 1, 2, none⟩) (World.block_lt_of_cell? w2 ⟨w.heap.size + 1, 2, none⟩ o5)).trans o5
        have hx6 : ∀ w', Below w2.heap.size w2 w' → w'.cell? ⟨w.heap.size + 1, 3, none⟩ = some (.int .i64 d) := fun w' h => (h.cell (p := ⟨w.heap.size + 1, 3, none⟩) (World.block_lt_of_cell? w2 ⟨w.heap.size + 1, 3, none⟩ o6)).trans o6
        clear o0 o1 o2 o3 o4 o5 o6 o7 o8 o9 o10 p0 p1 p2 p3
        go_region_held3 (fun w' => Below w2.heap.size w2 w')
          (((repeat (first | (with_reducible exact Below.refl _ _) | (with_reducible refine Ext.drewN ?_ _) | (with_reducible refine Below.drew ?_) | (with_reducible refine Ext.alloc ?_ _) | (with_reducible refine Ext.setCell ?_ (by simp; try omega) _) | (with_reducible refine Ext.trans ?_ (by assumption)) | (with_reducible assumption) | exact Below.refl _ _)); done))
          (first | (go_at_call 49; refine (eBegin_any a b c d _).mono ?_; rintro e v1 ⟨rfl, bv1⟩; obtain ⟨sv1, zv1, cv1, fv1⟩ := bcell bv1; (try simp only [World.size_alloc, World.size_setCell, World.size_drew] at sv1); (try have nv1_w_0 : w.heap.size < v1.heap.size := by omega); (try have nv1_w_1 : w.heap.size + 1 < v1.heap.size := by omega); (try have nv1_w_2 : w.heap.size + 1 + 1 < v1.heap.size := by omega); (try have nv1_w_3 : w.heap.size + 1 + 1 + 1 < v1.heap.size := by omega); (try have nv1_w_4 : w.heap.size + 1 + 1 + 1 + 1 < v1.heap.size := by omega); (try have nv1_v2_0 : v2.heap.size < v1.heap.size := by omega); (try have nv1_v2_1 : v2.heap.size + 1 < v1.heap.size := by omega); (try have nv1_v2_2 : v2.heap.size + 1 + 1 < v1.heap.size := by omega); (try have nv1_v3_0 : v3.heap.size < v1.heap.size := by omega); (try have nv1_v3_1 : v3.heap.size + 1 < v1.heap.size := by omega); (try have nv1_v3_2 : v3.heap.size + 1 + 1 < v1.heap.size := by omega); (try have nv1_v4_0 : v4.heap.size < v1.heap.size := by omega); (try have nv1_v4_1 : v4.heap.size + 1 < v1.heap.size := by omega); (try have nv1_v4_2 : v4.heap.size + 1 + 1 < v1.heap.size := by omega); (try have nv1_w2_0 : w2.heap.size < v1.heap.size := by omega); (try have nv1_w2_1 : w2.heap.size + 1 < v1.heap.size := by omega); (try have nv1_w2_2 : w2.heap.size + 1 + 1 < v1.heap.size := by omega)) | (go_at_call 50; refine (eEnd_any a b c d _).mono ?_; rintro e v2 ⟨rfl, bv2⟩; obtain ⟨sv2, zv2, cv2, fv2⟩ := bcell bv2; (try simp only [World.size_alloc, World.size_setCell, World.size_drew] at sv2); (try have nv2_w_0 : w.heap.size < v2.heap.size := by omega); (try have nv2_w_1 : w.heap.size + 1 < v2.heap.size := by omega); (try have nv2_w_2 : w.heap.size + 1 + 1 < v2.heap.size := by omega); (try have nv2_w_3 : w.heap.size + 1 + 1 + 1 < v2.heap.size := by omega); (try have nv2_w_4 : w.heap.size + 1 + 1 + 1 + 1 < v2.heap.size := by omega); (try have nv2_v1_0 : v1.heap.size < v2.heap.size := by omega); (try have nv2_v1_1 : v1.heap.size + 1 < v2.heap.size := by omega); (try have nv2_v1_2 : v1.heap.size + 1 + 1 < v2.heap.size := by omega); (try have nv2_v3_0 : v3.heap.size < v2.heap.size := by omega); (try have nv2_v3_1 : v3.heap.size + 1 < v2.heap.size := by omega); (try have nv2_v3_2 : v3.heap.size + 1 + 1 < v2.heap.size := by omega); (try have nv2_v4_0 : v4.heap.size < v2.heap.size := by omega); (try have nv2_v4_1 : v4.heap.size + 1 < v2.heap.size := by omega); (try have nv2_v4_2 : v4.heap.size + 1 + 1 < v2.heap.size := by omega); (try have nv2_w2_0 : w2.heap.size < v2.heap.size := by omega); (try have nv2_w2_1 : w2.heap.size + 1 < v2.heap.size := by omega); (try have nv2_w2_2 : w2.heap.size + 1 + 1 < v2.heap.size := by omega)) | (go_at_call_of 61 (Value.agg #[.int .i64 a, .int .i64 b]); refine (tImage_is n x y a b _ hn8 ?_ (by omega) (by omega) (by omega) (by omega) (by omega) (by omega) (by omega) (by omega)).mono ?_; (go_split_ands; refine Mats.below hM ?_ hM.size; assumption); rintro e v3 ⟨rfl, bv3⟩; obtain ⟨sv3, zv3, cv3, fv3⟩ := bcell bv3; (try simp only [World.size_alloc, World.size_setCell, World.size_drew] at sv3); (try have nv3_w_0 : w.heap.size < v3.heap.size := by omega); (try have nv3_w_1 : w.heap.size + 1 < v3.heap.size := by omega); (try have nv3_w_2 : w.heap.size + 1 + 1 < v3.heap.size := by omega); (try have nv3_w_3 : w.heap.size + 1 + 1 + 1 < v3.heap.size := by omega); (try have nv3_w_4 : w.heap.size + 1 + 1 + 1 + 1 < v3.heap.size := by omega); (try have nv3_v1_0 : v1.heap.size < v3.heap.size := by omega); (try have nv3_v1_1 : v1.heap.size + 1 < v3.heap.size := by omega); (try have nv3_v1_2 : v1.heap.size + 1 + 1 < v3.heap.size := by omega); (try have nv3_v2_0 : v2.heap.size < v3.heap.size := by omega); (try have nv3_v2_1 : v2.heap.size + 1 < v3.heap.size := by omega); (try have nv3_v2_2 : v2.heap.size + 1 + 1 < v3.heap.size := by omega); (try have nv3_v4_0 : v4.heap.size < v3.heap.size := by omega); (try have nv3_v4_1 : v4.heap.size + 1 < v3.heap.size := by omega); (try have nv3_v4_2 : v4.heap.size + 1 + 1 < v3.heap.size := by omega); (try have nv3_w2_0 : w2.heap.size < v3.heap.size := by omega); (try have nv3_w2_1 : w2.heap.size + 1 < v3.heap.size := by omega); (try have nv3_w2_2 : w2.heap.size + 1 + 1 < v3.heap.size := by omega)) | (go_at_call_of 61 (Value.agg #[.int .i64 c, .int .i64 d]); refine (tImage_is n x y c d _ hn8 ?_ (by omega) (by omega) (by omega) (by omega) (by omega) (by omega) (by omega) (by omega)).mono ?_; (go_split_ands; refine Mats.below hM ?_ hM.size; assumption); rintro e v4 ⟨rfl, bv4⟩; obtain ⟨sv4, zv4, cv4, fv4⟩ := bcell bv4; (try simp only [World.size_alloc, World.size_setCell, World.size_drew] at sv4); (try have nv4_w_0 : w.heap.size < v4.heap.size := by omega); (try have nv4_w_1 : w.heap.size + 1 < v4.heap.size := by omega); (try have nv4_w_2 : w.heap.size + 1 + 1 < v4.heap.size := by omega); (try have nv4_w_3 : w.heap.size + 1 + 1 + 1 < v4.heap.size := by omega); (try have nv4_w_4 : w.heap.size + 1 + 1 + 1 + 1 < v4.heap.size := by omega); (try have nv4_v1_0 : v1.heap.size < v4.heap.size := by omega); (try have nv4_v1_1 : v1.heap.size + 1 < v4.heap.size := by omega); (try have nv4_v1_2 : v1.heap.size + 1 + 1 < v4.heap.size := by omega); (try have nv4_v2_0 : v2.heap.size < v4.heap.size := by omega); (try have nv4_v2_1 : v2.heap.size + 1 < v4.heap.size := by omega); (try have nv4_v2_2 : v2.heap.size + 1 + 1 < v4.heap.size := by omega); (try have nv4_v3_0 : v3.heap.size < v4.heap.size := by omega); (try have nv4_v3_1 : v3.heap.size + 1 < v4.heap.size := by omega); (try have nv4_v3_2 : v3.heap.size + 1 + 1 < v4.heap.size := by omega); (try have nv4_w2_0 : w2.heap.size < v4.heap.size := by omega); (try have nv4_w2_1 : w2.heap.size + 1 < v4.heap.size := by omega); (try have nv4_w2_2 : w2.heap.size + 1 + 1 < v4.heap.size := by omega)))
        all_goals
          go_wp2_with fail
          go_meet
          refine ⟨_, _, rfl, rfl, ?_, ?_, ?_, ?_, ?_, ?_, ?_, ?_, ?_, ?_, ?_, ?_⟩
          · omega
          · omega
          · omega
          · (repeat (first | (with_reducible refine cellX ?_ (by first | omega | (simp; done) | (simp; omega)) _) | (with_reducible refine keepS ?_ (by first | omega | (simp; done) | (simp; omega)) _))); first | (simp [go_sem]; done) | (refine (pairSet (u0 := .int .i64 0) (u1 := .int .i64 0) ?_ ?_).1 <;> ((repeat (first | (with_reducible refine keepC bv4 ?_) | (with_reducible refine keepC bv2 ?_) | (with_reducible refine keepC bv3 ?_) | (with_reducible refine keepC bv1 ?_) | (with_reducible refine keepS ?_ (by first | omega | (simp; done) | (simp; omega)) _) | (with_reducible refine cellX ?_ (by first | omega | (simp; done) | (simp; omega)) _))); simp [go_sem]))
          · (repeat (first | (with_reducible refine cellX ?_ (by first | omega | (simp; done) | (simp; omega)) _) | (with_reducible refine keepS ?_ (by first | omega | (simp; done) | (simp; omega)) _))); first | (simp [go_sem]; done) | (refine (pairSet (u0 := .int .i64 0) (u1 := .int .i64 0) ?_ ?_).2 <;> ((repeat (first | (with_reducible refine keepC bv4 ?_) | (with_reducible refine keepC bv2 ?_) | (with_reducible refine keepC bv3 ?_) | (with_reducible refine keepC bv1 ?_) | (with_reducible refine keepS ?_ (by first | omega | (simp; done) | (simp; omega)) _) | (with_reducible refine cellX ?_ (by first | omega | (simp; done) | (simp; omega)) _))); simp [go_sem]))
          · (repeat (first | (with_reducible refine cellX ?_ (by first | omega | (simp; done) | (simp; omega)) _) | (with_reducible refine keepS ?_ (by first | omega | (simp; done) | (simp; omega)) _))); first | (simp [go_sem]; done) | (refine (pairSet (u0 := .int .i64 0) (u1 := .int .i64 0) ?_ ?_).1 <;> ((repeat (first | (with_reducible refine keepC bv4 ?_) | (with_reducible refine keepC bv2 ?_) | (with_reducible refine keepC bv3 ?_) | (with_reducible refine keepC bv1 ?_) | (with_reducible refine keepS ?_ (by first | omega | (simp; done) | (simp; omega)) _) | (with_reducible refine cellX ?_ (by first | omega | (simp; done) | (simp; omega)) _))); simp [go_sem]))
          · (repeat (first | (with_reducible refine cellX ?_ (by first | omega | (simp; done) | (simp; omega)) _) | (with_reducible refine keepS ?_ (by first | omega | (simp; done) | (simp; omega)) _))); first | (simp [go_sem]; done) | (refine (pairSet (u0 := .int .i64 0) (u1 := .int .i64 0) ?_ ?_).2 <;> ((repeat (first | (with_reducible refine keepC bv4 ?_) | (with_reducible refine keepC bv2 ?_) | (with_reducible refine keepC bv3 ?_) | (with_reducible refine keepC bv1 ?_) | (with_reducible refine keepS ?_ (by first | omega | (simp; done) | (simp; omega)) _) | (with_reducible refine cellX ?_ (by first | omega | (simp; done) | (simp; omega)) _))); simp [go_sem]))
          · first | (simp [go_sem]; done) | (simp [go_sem, *]; done)
          · first | (simp [go_sem]; done) | (simp [go_sem, *]; done)
          · first | (simp [go_sem]; done) | (simp [go_sem, *]; done)
          · first | (simp [go_sem]; done) | (simp [go_sem, *]; done)
          · (repeat (first | (with_reducible exact Below.refl _ _) | (with_reducible refine Ext.drewN ?_ _) | (with_reducible refine Below.drew ?_) | (with_reducible refine Ext.alloc ?_ _) | (with_reducible refine Ext.setCell ?_ (by simp; try omega) _) | (with_reducible refine Ext.trans ?_ (by assumption)) | (with_reducible assumption) | exact Below.refl _ _))
      case rest =>
        obtain ⟨g, h, rfl, rfl, hgh, q1, q2, c0, c1, c2, c3, f0, f1, f2, f3, bw3⟩ := hcut
        obtain ⟨sw3, zw3, cw3, fw3⟩ := bcell bw3; (try simp only [World.size_alloc, World.size_setCell, World.size_drew] at sw3)
        have nw3_0 : w.heap.size < wc.heap.size := by omega
        have nw3_1 : w.heap.size + 1 < wc.heap.size := by omega
        have nw3_2 : w.heap.size + 1 + 1 < wc.heap.size := by omega
        have hMc : Mats wc := hM.below bw3 hM.size
        have x0' := keepC bw3 o0
        have x1' := keepC bw3 o1
        have x2' := keepC bw3 o2
        have hon := allO2 (mvX n x y a b) (mvY n x y a b) (mvX n x y c d) (mvY n x y c d)
        have r0' : wc.frozen? ⟨w.heap.size + 1 + 1, 0, none⟩ = false := (bw3.frozen (p := ⟨w.heap.size + 1 + 1, 0, none⟩) (by show w.heap.size + 1 + 1 < w2.heap.size; omega)).trans p0
        have r1' : wc.frozen? ⟨w.heap.size + 1 + 1, 1, none⟩ = false := (bw3.frozen (p := ⟨w.heap.size + 1 + 1, 1, none⟩) (by show w.heap.size + 1 + 1 < w2.heap.size; omega)).trans p1
        have r2' : wc.frozen? ⟨w.heap.size + 1 + 1, 2, none⟩ = false := (bw3.frozen (p := ⟨w.heap.size + 1 + 1, 2, none⟩) (by show w.heap.size + 1 + 1 < w2.heap.size; omega)).trans p2
        have r3' : wc.frozen? ⟨w.heap.size + 1 + 1, 3, none⟩ = false := (bw3.frozen (p := ⟨w.heap.size + 1 + 1, 3, none⟩) (by show w.heap.size + 1 + 1 < w2.heap.size; omega)).trans p3
        have x7' := keepC bw3 o7
        have x8' := keepC bw3 o8
        have x9' := keepC bw3 o9
        have x10' := keepC bw3 o10
        have hgl : g < wc.heap.size := World.block_lt_of_cell? wc ⟨g, 0, none⟩ c0
        have hhl : h < wc.heap.size := World.block_lt_of_cell? wc ⟨h, 0, none⟩ c2
        clear cw3 fw3 zw3 bw1 bw2 zw1 zw2 o0 o1 o2 o3 o4 o5 o6 o7 o8 o9 o10 p0 p1 p2 p3
        cases h3 : (onB (mvX n x y a b) (mvY n x y a b) && onB (mvX n x y c d) (mvY n x y c d)) with
        | false =>
          rw [h3] at hon
          have hV : V = .tuple #[.agg #[.int .i64 0, .int .i64 0, .int .i64 0, .int .i64 0], .bool false] := by rw [HV.out, meV_no (by simp only [meB, h3, Bool.and_false])]
          clear HV
          subst hV
          go_wp2_with (go_at_call 48; refine (areOnChip2_any _ 2 _ _ _ _ (by omega) (pts2 (by simp [go_sem]; rfl) (by simp [go_sem]; rfl) (by simp [go_sem]; rfl) (by simp [go_sem]; rfl))).mono ?_; rintro e w4 ⟨rfl, bw4⟩; rw [hon]; obtain ⟨sw4, zw4, cw4, fw4⟩ := bcell bw4; (try simp only [World.size_alloc, World.size_setCell, World.size_drew] at sw4); have nw4_0 : w.heap.size + 1 + 1 < w4.heap.size := (by omega))
          refine bodyPost_ret (v := .tuple #[.agg #[.int .i64 0, .int .i64 0, .int .i64 0, .int .i64 0], .bool false]) (by simp [*, results, Tryz.results20, go_sem]) rfl ⟨rfl, ?_⟩
          have B1 := Ext.trans bw bw3
          have B2 : Below w.heap.size w w4 := Ext.trans (Ext.alloc B1 _) bw4
          exact Ext.setCell (Ext.setCell (Ext.setCell (Ext.setCell B2 (by show w.heap.size ≤ w.heap.size + 1 + 1; omega) _) (by show w.heap.size ≤ w.heap.size + 1 + 1; omega) _) (by show w.heap.size ≤ w.heap.size + 1 + 1; omega) _) (by show w.heap.size ≤ w.heap.size + 1 + 1; omega) _
        | true =>
          rw [h3] at hon
          by_cases h4 : 4 ≤ n
          · have hV : V = .tuple #[.agg #[.int .i64 (mvX n x y c d), .int .i64 (mvY n x y c d), .int .i64 (mvX n x y a b), .int .i64 (mvY n x y a b)], .bool true] := by rw [HV.out, meV_hi (by simp only [meB, h1, h2, h3, Bool.and_self]) (by omega)]
            clear HV
            subst hV
            have q4 : (4 : Int) ≤ (n : Int) := by omega
            go_upto_region 8 with (first | (go_at_call 48; refine (areOnChip2_any _ 2 _ _ _ _ (by omega) (pts2 (by simp [go_sem]; rfl) (by simp [go_sem]; rfl) (by simp [go_sem]; rfl) (by simp [go_sem]; rfl))).mono ?_; rintro e w4 ⟨rfl, bw4⟩; rw [hon]; have nw4_0 : w.heap.size + 1 + 1 < w4.heap.size := (by have := bw4.size; simp at this; omega); have x0' := keepC bw4 (keepA x0' _); have x1' := keepC bw4 (keepA x1' _); have x2' := keepC bw4 (keepA x2' _)) | (go_at_call 62; refine (orientation_any _ _ _ _).mono ?_; rintro e w5 ⟨rfl, bw5⟩; have bwx : Below wc.heap.size wc w5 := (Ext.trans (Ext.trans (Ext.alloc (Below.refl _ _) _) bw4) bw5); have y0 := (keepC bwx c0); have y1 := (keepC bwx c1); have y2 := (keepC bwx c2); have y3 := (keepC bwx c3); have g0 := ((bwx.frozen (p := ⟨g, 0, none⟩) hgl).trans f0); have g1 := ((bwx.frozen (p := ⟨g, 1, none⟩) hgl).trans f1); have g2 := ((bwx.frozen (p := ⟨h, 0, none⟩) hhl).trans f2); have g3 := ((bwx.frozen (p := ⟨h, 1, none⟩) hhl).trans f3); have z7 := (keepC bwx x7'); have z8 := (keepC bwx x8'); have z9 := (keepC bwx x9'); have z10 := (keepC bwx x10'); have r0 := ((bwx.frozen (p := ⟨w.heap.size + 1 + 1, 0, none⟩) nw3_2).trans r0'); have r1 := ((bwx.frozen (p := ⟨w.heap.size + 1 + 1, 1, none⟩) nw3_2).trans r1'); have r2 := ((bwx.frozen (p := ⟨w.heap.size + 1 + 1, 2, none⟩) nw3_2).trans r2'); have r3 := ((bwx.frozen (p := ⟨w.heap.size + 1 + 1, 3, none⟩) nw3_2).trans r3'); have B3 : Below w.heap.size w w5 := (Ext.trans (Ext.trans bw bw3) bwx); clear bwx bw4 bw5 bw3 x7' x8' x9' x10' r0' r1' r2' r3' c0 c1 c2 c3 f0 f1 f2 f3))
            have hwl : w.heap.size + 1 + 1 < w5.heap.size := World.block_lt_of_cell? w5 ⟨w.heap.size + 1 + 1, 0, none⟩ z7
            obtain ⟨wz, hwz⟩ : ∃ wz, wz = (((w5.setCell ⟨g, 0, none⟩ (.int .i64 (mvX n x y c d))).setCell ⟨g, 1, none⟩ (.int .i64 (mvY n x y c d))).setCell ⟨h, 0, none⟩ (.int .i64 (mvX n x y a b))).setCell ⟨h, 1, none⟩ (.int .i64 (mvY n x y a b)) := ⟨_, rfl⟩
            obtain ⟨k0, k1, k2, k3⟩ := swapCells (v0 := .int .i64 (mvX n x y c d)) (v1 := .int .i64 (mvY n x y c d)) (v2 := .int .i64 (mvX n x y a b)) (v3 := .int .i64 (mvY n x y a b)) hgh y0 y1 y2 y3
            have B5 : Below w.heap.size w wz := by
              rw [hwz]
              exact Ext.setCell (Ext.setCell (Ext.setCell (Ext.setCell B3 (by show w.heap.size ≤ g; omega) _) (by show w.heap.size ≤ g; omega) _) (by show w.heap.size ≤ h; omega) _) (by show w.heap.size ≤ h; omega) _
            have n1 : g ≠ w.heap.size + 1 + 1 := by omega
            have n2 : h ≠ w.heap.size + 1 + 1 := by omega
            rw [← hwz] at k0 k1 k2 k3 ⊢
            replace z7 : wz.cell? ⟨w.heap.size + 1 + 1, 0, none⟩ = some (.int .i64 0) := by rw [hwz]; exact keepS (keepS (keepS (keepS z7 n1 _) n1 _) n2 _) n2 _
            replace z8 : wz.cell? ⟨w.heap.size + 1 + 1, 1, none⟩ = some (.int .i64 0) := by rw [hwz]; exact keepS (keepS (keepS (keepS z8 n1 _) n1 _) n2 _) n2 _
            replace z9 : wz.cell? ⟨w.heap.size + 1 + 1, 2, none⟩ = some (.int .i64 0) := by rw [hwz]; exact keepS (keepS (keepS (keepS z9 n1 _) n1 _) n2 _) n2 _
            replace z10 : wz.cell? ⟨w.heap.size + 1 + 1, 3, none⟩ = some (.int .i64 0) := by rw [hwz]; exact keepS (keepS (keepS (keepS z10 n1 _) n1 _) n2 _) n2 _
            replace r0 : wz.frozen? ⟨w.heap.size + 1 + 1, 0, none⟩ = false := by rw [hwz]; simpa using r0
            replace r1 : wz.frozen? ⟨w.heap.size + 1 + 1, 1, none⟩ = false := by rw [hwz]; simpa using r1
            replace r2 : wz.frozen? ⟨w.heap.size + 1 + 1, 2, none⟩ = false := by rw [hwz]; simpa using r2
            replace r3 : wz.frozen? ⟨w.heap.size + 1 + 1, 3, none⟩ = false := by rw [hwz]; simpa using r3
            replace hwl : w.heap.size + 1 + 1 < wz.heap.size := by rw [hwz]; simpa using hwl
            clear hwz y0 y1 y2 y3 g0 g1 g2 g3
            go_wp2_with (go_at_call 63; refine (edgeBetween_any _ _ _ _ _).mono ?_; rintro e w6 ⟨rfl, bw6⟩; have t7 := keepC bw6 z7; have t8 := keepC bw6 z8; have t9 := keepC bw6 z9; have t10 := keepC bw6 z10; have s0 := (bw6.frozen (p := ⟨w.heap.size + 1 + 1, 0, none⟩) hwl).trans r0; have s1 := (bw6.frozen (p := ⟨w.heap.size + 1 + 1, 1, none⟩) hwl).trans r1; have s2 := (bw6.frozen (p := ⟨w.heap.size + 1 + 1, 2, none⟩) hwl).trans r2; have s3 := (bw6.frozen (p := ⟨w.heap.size + 1 + 1, 3, none⟩) hwl).trans r3)
            have e4 := set4_0 (v0 := .int .i64 (mvX n x y c d)) (v1 := .int .i64 (mvY n x y c d)) (v2 := .int .i64 (mvX n x y a b)) (v3 := .int .i64 (mvY n x y a b)) t7 t8 t9 t10
            have e5 := set4_1 (v0 := .int .i64 (mvX n x y c d)) (v1 := .int .i64 (mvY n x y c d)) (v2 := .int .i64 (mvX n x y a b)) (v3 := .int .i64 (mvY n x y a b)) t7 t8 t9 t10
            have e6 := set4_2 (v0 := .int .i64 (mvX n x y c d)) (v1 := .int .i64 (mvY n x y c d)) (v2 := .int .i64 (mvX n x y a b)) (v3 := .int .i64 (mvY n x y a b)) t7 t8 t9 t10
            have e7 := set4_3 (v0 := .int .i64 (mvX n x y c d)) (v1 := .int .i64 (mvY n x y c d)) (v2 := .int .i64 (mvX n x y a b)) (v3 := .int .i64 (mvY n x y a b)) t7 t8 t9 t10
            refine bodyPost_ret (v := .tuple #[.agg #[.int .i64 (mvX n x y c d), .int .i64 (mvY n x y c d), .int .i64 (mvX n x y a b), .int .i64 (mvY n x y a b)], .bool true]) (by simp [*, results, Tryz.results20, go_sem]) rfl ⟨rfl, ?_⟩
            have B4 : Below w.heap.size w w6 := Ext.trans B5 bw6
            exact Ext.setCell (Ext.setCell (Ext.setCell (Ext.setCell B4 (by show w.heap.size ≤ w.heap.size + 1 + 1; omega) _) (by show w.heap.size ≤ w.heap.size + 1 + 1; omega) _) (by show w.heap.size ≤ w.heap.size + 1 + 1; omega) _) (by show w.heap.size ≤ w.heap.size + 1 + 1; omega) _
          · have hV : V = .tuple #[.agg #[.int .i64 (mvX n x y a b), .int .i64 (mvY n x y a b), .int .i64 (mvX n x y c d), .int .i64 (mvY n x y c d)], .bool true] := by rw [HV.out, meV_lo (by simp only [meB, h1, h2, h3, Bool.and_self]) (by omega)]
            clear HV
            subst hV
            have q4 : ¬ (4 : Int) ≤ (n : Int) := by omega
            go_upto_region 8 with (first | (go_at_call 48; refine (areOnChip2_any _ 2 _ _ _ _ (by omega) (pts2 (by simp [go_sem]; rfl) (by simp [go_sem]; rfl) (by simp [go_sem]; rfl) (by simp [go_sem]; rfl))).mono ?_; rintro e w4 ⟨rfl, bw4⟩; rw [hon]; have nw4_0 : w.heap.size + 1 + 1 < w4.heap.size := (by have := bw4.size; simp at this; omega); have x0' := keepC bw4 (keepA x0' _); have x1' := keepC bw4 (keepA x1' _); have x2' := keepC bw4 (keepA x2' _)) | (go_at_call 62; refine (orientation_any _ _ _ _).mono ?_; rintro e w5 ⟨rfl, bw5⟩; have bwx : Below wc.heap.size wc w5 := (Ext.trans (Ext.trans (Ext.alloc (Below.refl _ _) _) bw4) bw5); have y0 := (keepC bwx c0); have y1 := (keepC bwx c1); have y2 := (keepC bwx c2); have y3 := (keepC bwx c3); have g0 := ((bwx.frozen (p := ⟨g, 0, none⟩) hgl).trans f0); have g1 := ((bwx.frozen (p := ⟨g, 1, none⟩) hgl).trans f1); have g2 := ((bwx.frozen (p := ⟨h, 0, none⟩) hhl).trans f2); have g3 := ((bwx.frozen (p := ⟨h, 1, none⟩) hhl).trans f3); have z7 := (keepC bwx x7'); have z8 := (keepC bwx x8'); have z9 := (keepC bwx x9'); have z10 := (keepC bwx x10'); have r0 := ((bwx.frozen (p := ⟨w.heap.size + 1 + 1, 0, none⟩) nw3_2).trans r0'); have r1 := ((bwx.frozen (p := ⟨w.heap.size + 1 + 1, 1, none⟩) nw3_2).trans r1'); have r2 := ((bwx.frozen (p := ⟨w.heap.size + 1 + 1, 2, none⟩) nw3_2).trans r2'); have r3 := ((bwx.frozen (p := ⟨w.heap.size + 1 + 1, 3, none⟩) nw3_2).trans r3'); have B3 : Below w.heap.size w w5 := (Ext.trans (Ext.trans bw bw3) bwx); clear bwx bw4 bw5 bw3 x7' x8' x9' x10' r0' r1' r2' r3' c0 c1 c2 c3 f0 f1 f2 f3))
            have hwl : w.heap.size + 1 + 1 < w5.heap.size := World.block_lt_of_cell? w5 ⟨w.heap.size + 1 + 1, 0, none⟩ z7
            go_wp2_with (go_at_call 63; refine (edgeBetween_any _ _ _ _ _).mono ?_; rintro e w6 ⟨rfl, bw6⟩; have t7 := keepC bw6 z7; have t8 := keepC bw6 z8; have t9 := keepC bw6 z9; have t10 := keepC bw6 z10; have s0 := (bw6.frozen (p := ⟨w.heap.size + 1 + 1, 0, none⟩) hwl).trans r0; have s1 := (bw6.frozen (p := ⟨w.heap.size + 1 + 1, 1, none⟩) hwl).trans r1; have s2 := (bw6.frozen (p := ⟨w.heap.size + 1 + 1, 2, none⟩) hwl).trans r2; have s3 := (bw6.frozen (p := ⟨w.heap.size + 1 + 1, 3, none⟩) hwl).trans r3)
            have e4 := set4_0 (v0 := .int .i64 (mvX n x y a b)) (v1 := .int .i64 (mvY n x y a b)) (v2 := .int .i64 (mvX n x y c d)) (v3 := .int .i64 (mvY n x y c d)) t7 t8 t9 t10
            have e5 := set4_1 (v0 := .int .i64 (mvX n x y a b)) (v1 := .int .i64 (mvY n x y a b)) (v2 := .int .i64 (mvX n x y c d)) (v3 := .int .i64 (mvY n x y c d)) t7 t8 t9 t10
            have e6 := set4_2 (v0 := .int .i64 (mvX n x y a b)) (v1 := .int .i64 (mvY n x y a b)) (v2 := .int .i64 (mvX n x y c d)) (v3 := .int .i64 (mvY n x y c d)) t7 t8 t9 t10
            have e7 := set4_3 (v0 := .int .i64 (mvX n x y a b)) (v1 := .int .i64 (mvY n x y a b)) (v2 := .int .i64 (mvX n x y c d)) (v3 := .int .i64 (mvY n x y c d)) t7 t8 t9 t10
            refine bodyPost_ret (v := .tuple #[.agg #[.int .i64 (mvX n x y a b), .int .i64 (mvY n x y a b), .int .i64 (mvX n x y c d), .int .i64 (mvY n x y c d)], .bool true]) (by simp [*, results, Tryz.results20, go_sem]) rfl ⟨rfl, ?_⟩
            have B4 : Below w.heap.size w w6 := Ext.trans B3 bw6
            exact Ext.setCell (Ext.setCell (Ext.setCell (Ext.setCell B4 (by show w.heap.size ≤ w.heap.size + 1 + 1; omega) _) (by show w.heap.size ≤ w.heap.size + 1 + 1; omega) _) (by show w.heap.size ≤ w.heap.size + 1 + 1; omega) _) (by show w.heap.size ≤ w.heap.size + 1 + 1; omega) _
end Go.Proofs.YtmabdemdapnmkaaGreatDoor
