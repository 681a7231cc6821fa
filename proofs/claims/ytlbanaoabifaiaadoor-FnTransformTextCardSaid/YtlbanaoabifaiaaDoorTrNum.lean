/- The model's decimal numerals of small numbers. -/
import Derived.Test.YtlbanaoabifaiaaDoorTrB
import Derived.OwnWalk
import Derived.Laws.AppendOwn
import Derived.Laws.BytesArg
import Derived.Lib.Hide
import Derived.LoopN
import Derived.Deep.DeepCutAuto
namespace Go.Proofs.YtlbanaoabifaiaaDoor
open Go.RowKit
set_option linter.unusedVariables false
set_option linter.unusedSimpArgs false

theorem conv1 (W : World) (b c : Nat) (x : Int) (h0 : W.cell? ⟨b, 0, none⟩ = some (.int .u8 x)) : (convert 22 9 (.slice (some ⟨b, 0, none⟩) 1 c)).run Tryd.prog W = .ok (.string (strOfNums [x])) W :=
  run_convert_bytes_arg (P := Tryd.prog) W 22 5 Tryd.underlying22 Tryd.underlying5 b 0 1 c [x] rfl (fun i hi => by
    obtain rfl : i = 0 := by omega
    exact h0) 9 Tryd.underlying9
theorem conv2 (W : World) (b c : Nat) (x y : Int) (h0 : W.cell? ⟨b, 0, none⟩ = some (.int .u8 x)) (h1 : W.cell? ⟨b, 1, none⟩ = some (.int .u8 y)) : (convert 22 9 (.slice (some ⟨b, 0, none⟩) 2 c)).run Tryd.prog W = .ok (.string (strOfNums [x, y])) W :=
  run_convert_bytes_arg (P := Tryd.prog) W 22 5 Tryd.underlying22 Tryd.underlying5 b 0 2 c [x, y] rfl (fun i hi => by
    rcases (show i = 0 ∨ i = 1 by omega) with rfl | rfl
    · exact h0
    · exact h1) 9 Tryd.underlying9
theorem conv3 (W : World) (b c : Nat) (x y z : Int) (h0 : W.cell? ⟨b, 0, none⟩ = some (.int .u8 x)) (h1 : W.cell? ⟨b, 1, none⟩ = some (.int .u8 y)) (h2 : W.cell? ⟨b, 2, none⟩ = some (.int .u8 z)) : (convert 22 9 (.slice (some ⟨b, 0, none⟩) 3 c)).run Tryd.prog W = .ok (.string (strOfNums [x, y, z])) W :=
  run_convert_bytes_arg (P := Tryd.prog) W 22 5 Tryd.underlying22 Tryd.underlying5 b 0 3 c [x, y, z] rfl (fun i hi => by
    rcases (show i = 0 ∨ i = 1 ∨ i = 2 by omega) with rfl | rfl | rfl
    · exact h0
    · exact h1
    · exact h2) 9 Tryd.underlying9

set_option maxHeartbeats 4000000 in
theorem l01Number_zero (w : World) : Calls Tryd.prog 49 #[.int .i64 0] w fun e w' => e = .returned (.string (strOfNums [48])) ∧ Below w.heap.size w w' := by
  go_enter Tryd.func49, Tryd.ntmps49
  go_wp2_with fail
  go_ret
  exact ⟨rfl, Below.refl _ _⟩

set_option maxHeartbeats 4000000 in
theorem l01Number_one (n : Int) (w : World) (h1 : 1 ≤ n) (h2 : n ≤ 9) : Calls Tryd.prog 49 #[.int .i64 n] w fun e w' => e = .returned (.string (strOfNums [48 + n])) ∧ Below w.heap.size w w' := by
  have e0 : (n == 0) = false := by simp; omega
  have e1 : (n != 0) = true := by simp; omega
  have e2 : n % 10 = n := by omega
  have e3 : n / 10 = 0 := by omega
  go_enter Tryd.func49, Tryd.ntmps49
  go_wp2_with fail
  refine wp_loop_rounds 2 ?_
  rw [rounds_succ]
  go_wp2_with fail
  rw [rounds_succ, e3]
  clear e2 e3 e0 e1
  have n0 : ¬ n < 0 := by omega
  have hconv := conv1 ((w.alloc (Obj.cells #[] 5)).alloc (Obj.cells #[Value.int IntKind.u8 (48 + n)] 5)) (w.heap.size + 1) 1 (48 + n) (by simp [go_sem])
  go_wp2_with fail
  go_ret
  exact ⟨rfl, by (repeat (first | (with_reducible exact Below.refl _ _) | (with_reducible refine Ext.drewN ?_ _) | (with_reducible refine Below.drew ?_) | (with_reducible refine Ext.alloc ?_ _) | (with_reducible refine Ext.setCell ?_ (by simp; try omega) _) | (with_reducible refine Ext.trans ?_ (by assumption)) | (with_reducible assumption) | exact Below.refl _ _))⟩

set_option maxHeartbeats 4000000 in
theorem l01Number_two (n : Int) (w : World) (h1 : 10 ≤ n) (h2 : n ≤ 99) : Calls Tryd.prog 49 #[.int .i64 n] w fun e w' => e = .returned (.string (strOfNums [48 + n / 10 % 10, 48 + n % 10])) ∧ Below w.heap.size w w' := by
  have e0 : (n == 0) = false := by simp; omega
  have e1 : (n != 0) = true := by simp; omega
  have e3 : (n / 10 != 0) = true := by simp; omega
  have e4 : n / 10 / 10 = 0 := by omega
  go_enter Tryd.func49, Tryd.ntmps49
  go_wp2_with fail
  refine wp_loop_rounds 3 ?_
  rw [rounds_succ]
  go_wp2_with fail
  rw [rounds_succ]
  go_wp2_with fail
  rw [rounds_succ, e4]
  clear e0 e1 e3 e4
  have n0 : ¬ n < 0 := by omega
  generalize hc : (Question.appendCap 2 1 5).cut (w.tape w.drawn (Question.appendCap 2 1 5)) = c
  clear hc
  have hconv := conv2 ((((w.alloc (Obj.cells #[] 5)).alloc (Obj.cells #[Value.int IntKind.u8 (48 + n % 10)] 5)).alloc (Obj.cells #[Value.int IntKind.u8 (48 + n / 10 % 10)] 5)).alloc (Obj.cells (#[Value.int IntKind.u8 (48 + n / 10 % 10), Value.int IntKind.u8 (48 + n % 10)] ++ Builtin.zeroCells #[Value.int IntKind.u8 0] (c - 2)) 5)).drew (w.heap.size + 1 + 1 + 1) c (48 + n / 10 % 10) (48 + n % 10) (by rw [World.cell?_drew, World.cell?_alloc_at _ _ _ _ (by simp), Array.getElem?_append_left (by simp)]; rfl) (by rw [World.cell?_drew, World.cell?_alloc_at _ _ _ _ (by simp), Array.getElem?_append_left (by simp)]; rfl)
  go_wp2_with fail
  go_ret
  exact ⟨rfl, by (repeat (first | (with_reducible exact Below.refl _ _) | (with_reducible refine Ext.drewN ?_ _) | (with_reducible refine Below.drew ?_) | (with_reducible refine Ext.alloc ?_ _) | (with_reducible refine Ext.setCell ?_ (by simp; try omega) _) | (with_reducible refine Ext.trans ?_ (by assumption)) | (with_reducible assumption) | exact Below.refl _ _))⟩

set_option maxHeartbeats 4000000 in
theorem l01Number_neg1 (n : Int) (w : World) (h1 : -9 ≤ n) (h2 : n ≤ -1) : Calls Tryd.prog 49 #[.int .i64 n] w fun e w' => e = .returned (.string (strOfNums [45, 48 + -n])) ∧ Below w.heap.size w w' := by
  have e0 : (n == 0) = false := by simp; omega
  have e1 : (n != 0) = true := by simp; omega
  have e2 : n.tmod 10 = n := by rw [show n = -(-n) by omega, Int.neg_tmod, Int.tmod_eq_emod_of_nonneg (by omega)]; omega
  have e3 : n.tdiv 10 = 0 := by rw [show n = -(-n) by omega, Int.neg_tdiv, Int.tdiv_eq_ediv_of_nonneg (by omega)]; omega
  go_enter Tryd.func49, Tryd.ntmps49
  go_wp2_with fail
  refine wp_loop_rounds 2 ?_
  rw [rounds_succ]
  go_wp2_with fail
  rw [rounds_succ]
  clear e0 e1 e2 e3
  have n0 : n < 0 := by omega
  go_upto_region 13 with fail
  generalize hc : (Question.appendCap 2 1 5).cut (w.tape w.drawn (Question.appendCap 2 1 5)) = c
  clear hc
  have hconv := conv2 ((((w.alloc (Obj.cells #[] 5)).alloc (Obj.cells #[Value.int IntKind.u8 (48 + -n)] 5)).alloc (Obj.cells #[Value.int IntKind.u8 45] 5)).alloc (Obj.cells (#[Value.int IntKind.u8 45, Value.int IntKind.u8 (48 + -n)] ++ Builtin.zeroCells #[Value.int IntKind.u8 0] (c - 2)) 5)).drew (w.heap.size + 1 + 1 + 1) c 45 (48 + -n) (by rw [World.cell?_drew, World.cell?_alloc_at _ _ _ _ (by simp), Array.getElem?_append_left (by simp)]; rfl) (by rw [World.cell?_drew, World.cell?_alloc_at _ _ _ _ (by simp), Array.getElem?_append_left (by simp)]; rfl)
  go_wp2_with fail
  go_ret
  exact ⟨rfl, by (repeat (first | (with_reducible exact Below.refl _ _) | (with_reducible refine Ext.drewN ?_ _) | (with_reducible refine Below.drew ?_) | (with_reducible refine Ext.alloc ?_ _) | (with_reducible refine Ext.setCell ?_ (by simp; try omega) _) | (with_reducible refine Ext.trans ?_ (by assumption)) | (with_reducible assumption) | exact Below.refl _ _))⟩

end Go.Proofs.YtlbanaoabifaiaaDoor
