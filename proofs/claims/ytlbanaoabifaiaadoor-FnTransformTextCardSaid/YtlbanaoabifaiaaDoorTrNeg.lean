/- The model's decimal numerals of numbers of two digits below zero. -/
import Derived.Test.YtlbanaoabifaiaaDoorTrNum
namespace Go.Proofs.YtlbanaoabifaiaaDoor
open Go.RowKit
set_option linter.unusedVariables false
set_option linter.unusedSimpArgs false

set_option maxHeartbeats 4000000 in
theorem l01Number_neg2 (n : Int) (w : World) (h1 : -99 ≤ n) (h2 : n ≤ -10) : Calls Tryd.prog 49 #[.int .i64 n] w fun e w' => e = .returned (.string (strOfNums [45, 48 + -(n.tdiv 10).tmod 10, 48 + -n.tmod 10])) ∧ Below w.heap.size w w' := by
  have e0 : (n == 0) = false := by simp; omega
  have e1 : (n != 0) = true := by simp; omega
  have t1 : n.tmod 10 = -((-n) % 10) := by rw [show n = -(-n) by omega, Int.neg_tmod, Int.tmod_eq_emod_of_nonneg (by omega)]; simp
  have t2 : n.tdiv 10 = -((-n) / 10) := by rw [show n = -(-n) by omega, Int.neg_tdiv, Int.tdiv_eq_ediv_of_nonneg (by omega)]; simp
  have t3 : (n.tdiv 10).tmod 10 = -((-n) / 10) := by rw [t2, Int.neg_tmod, Int.tmod_eq_emod_of_nonneg (by omega)]; omega
  have t4 : (n.tdiv 10).tdiv 10 = 0 := by rw [t2, Int.neg_tdiv, Int.tdiv_eq_ediv_of_nonneg (by omega)]; omega
  have b1 : -9 ≤ n.tmod 10 := by omega
  have b2 : n.tmod 10 ≤ 0 := by omega
  have b3 : -9 ≤ n.tdiv 10 := by omega
  have b4 : n.tdiv 10 ≤ -1 := by omega
  have b5 : -9 ≤ (n.tdiv 10).tmod 10 := by omega
  have b6 : (n.tdiv 10).tmod 10 ≤ -1 := by omega
  have e3 : (n.tdiv 10 != 0) = true := by simp; omega
  clear t1 t2 t3
  go_enter Tryd.func49, Tryd.ntmps49
  by_cases hz : n.tmod 10 < 0
  · go_wp2_with fail
    refine wp_loop_rounds 3 ?_
    rw [rounds_succ]
    go_wp2_with fail
    rw [rounds_succ]
    go_wp2_with fail
    rw [rounds_succ]
    clear t4 e0 e1 e3
    have n0 : n < 0 := by omega
    generalize hc : (Question.appendCap 2 1 5).cut (w.tape w.drawn (Question.appendCap 2 1 5)) = c
    clear hc
    have hs : (((((w.alloc (Obj.cells #[] 5)).alloc (Obj.cells #[Value.int IntKind.u8 (48 + -n.tmod 10)] 5)).alloc (Obj.cells #[Value.int IntKind.u8 (48 + -(n.tdiv 10).tmod 10)] 5)).alloc (Obj.cells (#[Value.int IntKind.u8 (48 + -(n.tdiv 10).tmod 10), Value.int IntKind.u8 (48 + -n.tmod 10)] ++ Builtin.zeroCells #[Value.int IntKind.u8 0] (c - 2)) 5)).drew).heap.size = w.heap.size + 1 + 1 + 1 + 1 := by simp
    have hB : Below w.heap.size w (((((w.alloc (Obj.cells #[] 5)).alloc (Obj.cells #[Value.int IntKind.u8 (48 + -n.tmod 10)] 5)).alloc (Obj.cells #[Value.int IntKind.u8 (48 + -(n.tdiv 10).tmod 10)] 5)).alloc (Obj.cells (#[Value.int IntKind.u8 (48 + -(n.tdiv 10).tmod 10), Value.int IntKind.u8 (48 + -n.tmod 10)] ++ Builtin.zeroCells #[Value.int IntKind.u8 0] (c - 2)) 5)).drew) := by (repeat (first | (with_reducible exact Below.refl _ _) | (with_reducible refine Ext.drewN ?_ _) | (with_reducible refine Below.drew ?_) | (with_reducible refine Ext.alloc ?_ _) | (with_reducible refine Ext.setCell ?_ (by simp; try omega) _) | (with_reducible refine Ext.trans ?_ (by assumption)) | (with_reducible assumption) | exact Below.refl _ _))
    have hA0 : (((((w.alloc (Obj.cells #[] 5)).alloc (Obj.cells #[Value.int IntKind.u8 (48 + -n.tmod 10)] 5)).alloc (Obj.cells #[Value.int IntKind.u8 (48 + -(n.tdiv 10).tmod 10)] 5)).alloc (Obj.cells (#[Value.int IntKind.u8 (48 + -(n.tdiv 10).tmod 10), Value.int IntKind.u8 (48 + -n.tmod 10)] ++ Builtin.zeroCells #[Value.int IntKind.u8 0] (c - 2)) 5)).drew).cell? ⟨w.heap.size + 1 + 1 + 1, 0, none⟩ = some (.int .u8 (48 + -(n.tdiv 10).tmod 10)) := by rw [World.cell?_drew, World.cell?_alloc_at _ _ _ _ (by simp), Array.getElem?_append_left (by simp)]; rfl
    have hA1 : (((((w.alloc (Obj.cells #[] 5)).alloc (Obj.cells #[Value.int IntKind.u8 (48 + -n.tmod 10)] 5)).alloc (Obj.cells #[Value.int IntKind.u8 (48 + -(n.tdiv 10).tmod 10)] 5)).alloc (Obj.cells (#[Value.int IntKind.u8 (48 + -(n.tdiv 10).tmod 10), Value.int IntKind.u8 (48 + -n.tmod 10)] ++ Builtin.zeroCells #[Value.int IntKind.u8 0] (c - 2)) 5)).drew).cell? ⟨w.heap.size + 1 + 1 + 1, 1, none⟩ = some (.int .u8 (48 + -n.tmod 10)) := by rw [World.cell?_drew, World.cell?_alloc_at _ _ _ _ (by simp), Array.getElem?_append_left (by simp)]; rfl
    generalize ((((w.alloc (Obj.cells #[] 5)).alloc (Obj.cells #[Value.int IntKind.u8 (48 + -n.tmod 10)] 5)).alloc (Obj.cells #[Value.int IntKind.u8 (48 + -(n.tdiv 10).tmod 10)] 5)).alloc (Obj.cells (#[Value.int IntKind.u8 (48 + -(n.tdiv 10).tmod 10), Value.int IntKind.u8 (48 + -n.tmod 10)] ++ Builtin.zeroCells #[Value.int IntKind.u8 0] (c - 2)) 5)).drew = W at hs hB hA0 hA1 ⊢
    have hlt : w.heap.size + 1 + 1 + 1 < W.heap.size := by omega
    go_upto_region 13 with fail
    generalize hd : (Question.appendCap 3 1 5).cut (W.tape W.drawn (Question.appendCap 3 1 5)) = d
    clear hd
    have hconv := conv3 (((W.alloc (Obj.cells #[Value.int IntKind.u8 45] 5)).alloc (Obj.cells (#[Value.int IntKind.u8 45] ++ (#[Value.int IntKind.u8 (48 + -(n.tdiv 10).tmod 10), Value.int IntKind.u8 (48 + -n.tmod 10)] ++ Builtin.zeroCells #[Value.int IntKind.u8 0] (d - 3))) 5)).drew) (w.heap.size + 1 + 1 + 1 + 1 + 1) d 45 (48 + -(n.tdiv 10).tmod 10) (48 + -n.tmod 10) (by rw [World.cell?_drew, World.cell?_alloc_at _ _ _ _ (by simp [hs])]; rw [Array.getElem?_append_left (by simp)]; rfl) (by rw [World.cell?_drew, World.cell?_alloc_at _ _ _ _ (by simp [hs])]; rw [Array.getElem?_append_right (by simp), Array.getElem?_append_left (by simp)]; rfl) (by rw [World.cell?_drew, World.cell?_alloc_at _ _ _ _ (by simp [hs])]; rw [Array.getElem?_append_right (by simp), Array.getElem?_append_left (by simp)]; rfl)
    go_wp2_with fail
    go_ret
    refine ⟨rfl, hB.trans (Below.mono (B := W.heap.size) ?_ (by omega))⟩
    (repeat (first | (with_reducible exact Below.refl _ _) | (with_reducible refine Ext.drewN ?_ _) | (with_reducible refine Below.drew ?_) | (with_reducible refine Ext.alloc ?_ _) | (with_reducible refine Ext.setCell ?_ (by simp; try omega) _) | (with_reducible refine Ext.trans ?_ (by assumption)) | (with_reducible assumption) | exact Below.refl _ _))
  · have hz0 : n.tmod 10 = 0 := by omega
    clear hz
    go_wp2_with fail
    refine wp_loop_rounds 3 ?_
    rw [rounds_succ]
    go_wp2_with fail
    rw [rounds_succ]
    go_wp2_with fail
    rw [rounds_succ]
    clear t4 e0 e1 e3
    have n0 : n < 0 := by omega
    generalize hc : (Question.appendCap 2 1 5).cut (w.tape w.drawn (Question.appendCap 2 1 5)) = c
    clear hc
    have hs : (((((w.alloc (Obj.cells #[] 5)).alloc (Obj.cells #[Value.int IntKind.u8 (48)] 5)).alloc (Obj.cells #[Value.int IntKind.u8 (48 + -(n.tdiv 10).tmod 10)] 5)).alloc (Obj.cells (#[Value.int IntKind.u8 (48 + -(n.tdiv 10).tmod 10), Value.int IntKind.u8 (48)] ++ Builtin.zeroCells #[Value.int IntKind.u8 0] (c - 2)) 5)).drew).heap.size = w.heap.size + 1 + 1 + 1 + 1 := by simp
    have hB : Below w.heap.size w (((((w.alloc (Obj.cells #[] 5)).alloc (Obj.cells #[Value.int IntKind.u8 (48)] 5)).alloc (Obj.cells #[Value.int IntKind.u8 (48 + -(n.tdiv 10).tmod 10)] 5)).alloc (Obj.cells (#[Value.int IntKind.u8 (48 + -(n.tdiv 10).tmod 10), Value.int IntKind.u8 (48)] ++ Builtin.zeroCells #[Value.int IntKind.u8 0] (c - 2)) 5)).drew) := by (repeat (first | (with_reducible exact Below.refl _ _) | (with_reducible refine Ext.drewN ?_ _) | (with_reducible refine Below.drew ?_) | (with_reducible refine Ext.alloc ?_ _) | (with_reducible refine Ext.setCell ?_ (by simp; try omega) _) | (with_reducible refine Ext.trans ?_ (by assumption)) | (with_reducible assumption) | exact Below.refl _ _))
    have hA0 : (((((w.alloc (Obj.cells #[] 5)).alloc (Obj.cells #[Value.int IntKind.u8 (48)] 5)).alloc (Obj.cells #[Value.int IntKind.u8 (48 + -(n.tdiv 10).tmod 10)] 5)).alloc (Obj.cells (#[Value.int IntKind.u8 (48 + -(n.tdiv 10).tmod 10), Value.int IntKind.u8 (48)] ++ Builtin.zeroCells #[Value.int IntKind.u8 0] (c - 2)) 5)).drew).cell? ⟨w.heap.size + 1 + 1 + 1, 0, none⟩ = some (.int .u8 (48 + -(n.tdiv 10).tmod 10)) := by rw [World.cell?_drew, World.cell?_alloc_at _ _ _ _ (by simp), Array.getElem?_append_left (by simp)]; rfl
    have hA1 : (((((w.alloc (Obj.cells #[] 5)).alloc (Obj.cells #[Value.int IntKind.u8 (48)] 5)).alloc (Obj.cells #[Value.int IntKind.u8 (48 + -(n.tdiv 10).tmod 10)] 5)).alloc (Obj.cells (#[Value.int IntKind.u8 (48 + -(n.tdiv 10).tmod 10), Value.int IntKind.u8 (48)] ++ Builtin.zeroCells #[Value.int IntKind.u8 0] (c - 2)) 5)).drew).cell? ⟨w.heap.size + 1 + 1 + 1, 1, none⟩ = some (.int .u8 (48)) := by rw [World.cell?_drew, World.cell?_alloc_at _ _ _ _ (by simp), Array.getElem?_append_left (by simp)]; rfl
    generalize ((((w.alloc (Obj.cells #[] 5)).alloc (Obj.cells #[Value.int IntKind.u8 (48)] 5)).alloc (Obj.cells #[Value.int IntKind.u8 (48 + -(n.tdiv 10).tmod 10)] 5)).alloc (Obj.cells (#[Value.int IntKind.u8 (48 + -(n.tdiv 10).tmod 10), Value.int IntKind.u8 (48)] ++ Builtin.zeroCells #[Value.int IntKind.u8 0] (c - 2)) 5)).drew = W at hs hB hA0 hA1 ⊢
    have hlt : w.heap.size + 1 + 1 + 1 < W.heap.size := by omega
    go_upto_region 13 with fail
    generalize hd : (Question.appendCap 3 1 5).cut (W.tape W.drawn (Question.appendCap 3 1 5)) = d
    clear hd
    have hconv := conv3 (((W.alloc (Obj.cells #[Value.int IntKind.u8 45] 5)).alloc (Obj.cells (#[Value.int IntKind.u8 45] ++ (#[Value.int IntKind.u8 (48 + -(n.tdiv 10).tmod 10), Value.int IntKind.u8 (48)] ++ Builtin.zeroCells #[Value.int IntKind.u8 0] (d - 3))) 5)).drew) (w.heap.size + 1 + 1 + 1 + 1 + 1) d 45 (48 + -(n.tdiv 10).tmod 10) (48) (by rw [World.cell?_drew, World.cell?_alloc_at _ _ _ _ (by simp [hs])]; rw [Array.getElem?_append_left (by simp)]; rfl) (by rw [World.cell?_drew, World.cell?_alloc_at _ _ _ _ (by simp [hs])]; rw [Array.getElem?_append_right (by simp), Array.getElem?_append_left (by simp)]; rfl) (by rw [World.cell?_drew, World.cell?_alloc_at _ _ _ _ (by simp [hs])]; rw [Array.getElem?_append_right (by simp), Array.getElem?_append_left (by simp)]; rfl)
    go_wp2_with fail
    go_ret
    refine ⟨by rw [hz0]; rfl, hB.trans (Below.mono (B := W.heap.size) ?_ (by omega))⟩
    (repeat (first | (with_reducible exact Below.refl _ _) | (with_reducible refine Ext.drewN ?_ _) | (with_reducible refine Below.drew ?_) | (with_reducible refine Ext.alloc ?_ _) | (with_reducible refine Ext.setCell ?_ (by simp; try omega) _) | (with_reducible refine Ext.trans ?_ (by assumption)) | (with_reducible assumption) | exact Below.refl _ _))

end Go.Proofs.YtlbanaoabifaiaaDoor
