/- Contracts of the model's turns and moves. Conditions: the orientation is in 0..7 and the coordinates are small. -/
import Derived.Test.YtdcddneanbplpaaDoorTrA
import Derived.Lib.LaidTab
import Derived.Lib.LaidU8
import Derived.LaidMore
import Derived.Lay
import Derived.Stop.Joined
import Derived.Deep.RegionHeld3
import Derived.Deep.DeepCutAuto
import Derived.Deep.DrawnRows
import Derived.ChangeKeysEq
import Derived.Lib.Hide
import Derived.Laws.AppendOwn
import Derived.OwnWalk
import Derived.StillTailTactics
import Derived.IntWalk
import Derived.Test.YtdcddneanbplpaaDoorReA
import Derived.Test.YtdcddneanbplpaaDoorRgN
import Derived.Test.YtdcddneanbplpaaDoorSbA
import Derived.Test.YtdcddneanbplpaaDoorRgW
namespace Go.Proofs.YtdcddneanbplpaaDoor
open Go.RowKit
set_option linter.unusedVariables false
set_option linter.unusedSimpArgs false

def tX (o x y : Int) : Int := if o = 0 then x else if o = 1 then -y else if o = 2 then -x else if o = 3 then y else if o = 4 then x else if o = 5 then y else if o = 6 then -x else -y
def tY (o x y : Int) : Int := if o = 0 then y else if o = 1 then x else if o = 2 then -y else if o = 3 then -x else if o = 4 then -y else if o = 5 then x else if o = 6 then y else -x


def rX (j : Nat) (x y : Int) : Int := match j with | 0 => x | 1 => -y | 2 => -x | _ => y
def rY (j : Nat) (x y : Int) : Int := match j with | 0 => y | 1 => x | 2 => -y | _ => -x

set_option maxHeartbeats 4000000 in
theorem turn_any (o x y : Int) (w : World) (h0 : 0 ≤ o) (h7 : o ≤ 7) (hx : -1000000 ≤ x) (hx' : x ≤ 1000000) (hy : -1000000 ≤ y) (hy' : y ≤ 1000000) :
    Calls Tryd.prog 120 #[.int .i64 o, .agg #[.int .i64 x, .int .i64 y]] w fun e w' => e = .returned (.agg #[.int .i64 (tX o x y), .int .i64 (tY o x y)]) ∧ Below w.heap.size w w' := by
  rcases (show o = 0 ∨ o = 1 ∨ o = 2 ∨ o = 3 ∨ o = 4 ∨ o = 5 ∨ o = 6 ∨ o = 7 by omega) with rfl | rfl | rfl | rfl | rfl | rfl | rfl | rfl
  all_goals
    go_enter Tryd.func120, Tryd.ntmps120
    go_wp2_with fail
    go_quiet (fail)
    go_wp2_with fail
    go_rounds 4
    refine bodyPost_ret (v := .agg #[.int .i64 (tX _ x y), .int .i64 (tY _ x y)]) (by simp [results, Tryd.results120, go_sem, tX, tY]) rfl ⟨rfl, ?_⟩
    repeat (first | exact Below.refl _ _ | refine Ext.drewN ?_ _ | refine Ext.alloc ?_ _ | refine Ext.setCell ?_ (by simp) _)
end Go.Proofs.YtdcddneanbplpaaDoor

/- Contracts of the model's moves of points and cells, of the conversions and comparisons of the laws. -/
namespace Go.Proofs.YtdcddneanbplpaaDoor
open Go.RowKit
set_option linter.unusedVariables false
set_option linter.unusedSimpArgs false

def onB (x y : Int) : Bool := inB x (-40) 40 && inB y (-40) 40
def ucB (x y : Int) : Bool := inB x (-40) 39 && inB y (-40) 39
theorem onB_t {x y : Int} (h : onB x y = true) : (-40 ≤ x ∧ x ≤ 40) ∧ (-40 ≤ y ∧ y ≤ 40) := by
  unfold onB at h; simp only [Bool.and_eq_true] at h; exact ⟨inB_t h.1, inB_t h.2⟩
theorem ucB_t {x y : Int} (h : ucB x y = true) : (-40 ≤ x ∧ x ≤ 39) ∧ (-40 ≤ y ∧ y ≤ 39) := by
  unfold ucB at h; simp only [Bool.and_eq_true] at h; exact ⟨inB_t h.1, inB_t h.2⟩

theorem t_bd (o x y B : Int) (hx : -B ≤ x) (hx' : x ≤ B) (hy : -B ≤ y) (hy' : y ≤ B) : (-B ≤ tX o x y ∧ tX o x y ≤ B) ∧ (-B ≤ tY o x y ∧ tY o x y ≤ B) := by
  unfold tX tY
  refine ⟨?_, ?_⟩ <;> (repeat' split) <;> omega

def eqPB (a b c d : Int) : Bool := a == c && b == d
def eqTB (a b c d e f : Int) : Bool := a == d && b == e && c == f
theorem isUnitCell_any (x y : Int) (w : World) : Calls Tryd.prog 70 #[.agg #[.int .i64 x, .int .i64 y]] w fun e w' => e = .returned (.bool (ucB x y)) ∧ Below w.heap.size w w' := by
  by_cases h1 : inB x (-40) 39 = true
  all_goals
    go_enter Tryd.func70, Tryd.ntmps70
    go_wp2_with (go_at_call 101; go_call inRange_any as e w' ⟨rfl, rfl⟩)
    go_ret
    exact ⟨ret_bool (by simp [ucB, h1]), by go_grown⟩

theorem l01Move_any (o x y a b : Int) (w : World) (h0 : 0 ≤ o) (h7 : o ≤ 7) (hx : -1000 ≤ x) (hx' : x ≤ 1000) (hy : -1000 ≤ y) (hy' : y ≤ 1000) (ha : -1000 ≤ a) (ha' : a ≤ 1000) (hb : -1000 ≤ b) (hb' : b ≤ 1000) :
    Calls Tryd.prog 103 #[.agg #[.int .i64 o, .int .i64 x, .int .i64 y], .agg #[.int .i64 a, .int .i64 b]] w fun e w' => e = .returned (.agg #[.int .i64 (tX o a b + x), .int .i64 (tY o a b + y)]) ∧ Below w.heap.size w w' := by
  obtain ⟨⟨t1, t2⟩, t3, t4⟩ := t_bd o a b 1000 ha ha' hb hb'
  go_enter Tryd.func103, Tryd.ntmps103
  go_wp2_with fail
  go_call (turn_any) as e w1 ⟨rfl, bw1⟩
  obtain ⟨sw1, zw1, cw1, fw1⟩ := bcell bw1
  try simp only [World.size_alloc, World.size_setCell, World.size_drew] at sw1
  try have lw1_w_0 : w.heap.size < w1.heap.size := by omega
  try have lw1_w_1 : w.heap.size + 1 < w1.heap.size := by omega
  try have lw1_w_2 : w.heap.size + 1 + 1 < w1.heap.size := by omega
  try have lw1_w_3 : w.heap.size + 1 + 1 + 1 < w1.heap.size := by omega
  try have lw1_w_4 : w.heap.size + 1 + 1 + 1 + 1 < w1.heap.size := by omega
  try have lw1_w_5 : w.heap.size + 1 + 1 + 1 + 1 + 1 < w1.heap.size := by omega
  try have lw1_w_6 : w.heap.size + 1 + 1 + 1 + 1 + 1 + 1 < w1.heap.size := by omega
  go_wp2_with fail
  refine bodyPost_ret (v := .agg #[.int .i64 (tX o a b + x), .int .i64 (tY o a b + y)]) (by simp [*, results, Tryd.results103, go_sem]) rfl ⟨rfl, ?_⟩
  (repeat (first | (with_reducible exact Below.refl _ _) | (with_reducible refine Ext.drewN ?_ _) | (with_reducible refine Below.drew ?_) | (with_reducible refine Ext.alloc ?_ _) | (with_reducible refine Ext.setCell ?_ (by simp; try omega) _) | (with_reducible refine Ext.trans ?_ (by assumption)) | (with_reducible assumption) | exact Below.refl _ _))

def mpB (o x y a b : Int) : Bool := vldB o x y && onB a b
def mpX (o x y a b : Int) : Int := if mpB o x y a b = true then tX o a b + x else 0
def mpY (o x y a b : Int) : Int := if mpB o x y a b = true then tY o a b + y else 0
/-- What MovePoint answers. -/
def mpV (o x y a b : Int) : Value := .tuple #[.agg #[.int .i64 (mpX o x y a b), .int .i64 (mpY o x y a b)], .bool (mpB o x y a b)]
theorem mpV_yes {o x y a b : Int} (h1 : vldB o x y = true) (h2 : onB a b = true) : mpV o x y a b = .tuple #[.agg #[.int .i64 (tX o a b + x), .int .i64 (tY o a b + y)], .bool true] := by
  simp [mpV, mpX, mpY, mpB, h1, h2]
theorem mpV_no {o x y a b : Int} (h : mpB o x y a b = false) : mpV o x y a b = .tuple #[.agg #[.int .i64 0, .int .i64 0], .bool false] := by
  simp [mpV, mpX, mpY, h]
end Go.Proofs.YtdcddneanbplpaaDoor

/- The table of orientations in memory, out of what the row lists: the 32 cells of the variable orientationMatrices. -/
namespace Go.Proofs.YtdcddneanbplpaaDoor
open Go.RowKit Go.Lib

def matL : List Int := [1, 0, 0, 1, 0, -1, 1, 0, -1, 0, 0, -1, 0, 1, -1, 0, 1, 0, 0, -1, 0, 1, 1, 0, -1, 0, 0, 1, 0, -1, -1, 0]
/-- The variable's cells hold the table. -/
def Mats (w : World) : Prop := ∀ i, i < 32 → w.cell? ⟨1, i, none⟩ = some (.int .i64 (matL.getD i 0))

theorem mats_of_reads {W : World} (h : VarReads Tryd.prog W "loop.example/g00890/impl.orientationMatrices" Rows.laid_loop_example_g00890_impl_orientationMatrices) : Mats W := by
  obtain ⟨g, t, cs, fuel, p, hg, hty, hvar, hd⟩ := h
  obtain rfl := Option.some.inj ((show Tryd.prog.globalNamed "loop.example/g00890/impl.orientationMatrices" = some 1 by kernel_rfl).symm.trans hg)
  obtain rfl := Option.some.inj ((show (Tryd.prog.globals[1]?).map (·.type) = some 137 by kernel_rfl).symm.trans hty)
  have c4 : Tryd.prog.cellsOf 136 = 4 := by kernel_rfl
  have c1 : Tryd.prog.cellsOf 2 = 1 := by kernel_rfl
  have key : ∀ i, i < 8 → ∀ j, j < 4 → W.cell? ⟨1, i * 4 + j, none⟩ = some (.int .i64 (matL.getD (i * 4 + j) 0)) := by
    intro i hi j hj
    obtain ⟨f', d, q, hds, hr⟩ := array_elem Tryd.underlying137 hd i hi
    rw [c4] at hr
    have hdd : d = tabData .i64 [matL.getD (i * 4) 0, matL.getD (i * 4 + 1) 0, matL.getD (i * 4 + 2) 0, matL.getD (i * 4 + 3) 0] := by
      rcases (show i = 0 ∨ i = 1 ∨ i = 2 ∨ i = 3 ∨ i = 4 ∨ i = 5 ∨ i = 6 ∨ i = 7 by omega) with rfl | rfl | rfl | rfl | rfl | rfl | rfl | rfl <;> exact (Option.some.inj hds).symm
    rw [hdd] at hr
    have hcs := cells_of_tab Tryd.underlying136 Tryd.underlying2 c1 c4 hr
    have h2 : cs.toList[i * 4 + j]? = some (.int .i64 (matL.getD (i * 4 + j) 0)) := by
      have h3 : ((cs.toList.drop (i * 4)).take 4)[j]? = cs.toList[i * 4 + j]? := by
        rw [List.getElem?_take_of_lt hj, List.getElem?_drop]
      rw [← h3, hcs]
      rcases (show j = 0 ∨ j = 1 ∨ j = 2 ∨ j = 3 by omega) with rfl | rfl | rfl | rfl <;> rfl
    rw [World.var?_cell hg hvar]
    simpa using h2
  intro i hi
  have := key (i / 4) (by omega) (i % 4) (by omega)
  rw [show i / 4 * 4 + i % 4 = i by omega] at this
  exact this

theorem mats_of_laid {W : World} {laid : List (String × DataW Unit)} (h : laidMetH Tryd.prog laid W) (hp : (laid.all fun x => x.2.handleName?.isNone) = true)
    (hm : ("loop.example/g00890/impl.orientationMatrices", Rows.laid_loop_example_g00890_impl_orientationMatrices) ∈ laid) : Mats W := by
  rw [MakeChecks.laidMetH_plain _ _ _ hp] at h
  exact mats_of_reads (laidMet.reads h hm)

theorem Mats.below {W W' : World} (h : Mats W) (hb : Below W.heap.size W W') (hz : 1 < W.heap.size) : Mats W' := fun i hi => (hb.cell (p := ⟨1, i, none⟩) hz).trans (h i hi)
theorem Mats.size {W : World} (h : Mats W) : 1 < W.heap.size := by
  have := h 0 (by omega)
  unfold World.cell? at this
  split at this
  · rename_i heq
    exact (Array.getElem?_eq_some_iff.1 heq).1
  · cases this
theorem Mats.ne {W : World} (h : Mats W) : ¬ W.heap = #[] := fun e => by have := h.size; rw [e] at this; simp at this
end Go.Proofs.YtdcddneanbplpaaDoor

/- Contracts of the program's matrices and orientations. Condition: the variable orientationMatrices holds its table. -/
namespace Go.Proofs.YtdcddneanbplpaaDoor
open Go.RowKit
set_option linter.unusedVariables false
set_option linter.unusedSimpArgs false
attribute [local go_sem ↓] Go.wp_at_zero Go.wp_at_succ


def mr (o : Int) (j : Nat) : Int := matL.getD (o.toNat * 4 + j) 0

theorem oct {o : Int} (h0 : 0 ≤ o) (h7 : o ≤ 7) : o = 0 ∨ o = 1 ∨ o = 2 ∨ o = 3 ∨ o = 4 ∨ o = 5 ∨ o = 6 ∨ o = 7 := by omega

set_option maxHeartbeats 4000000 in
theorem matImage_any (o x y : Int) (w : World) (h0 : 0 ≤ o) (h7 : o ≤ 7) (hx : -1000000 ≤ x) (hx' : x ≤ 1000000) (hy : -1000000 ≤ y) (hy' : y ≤ 1000000) :
    Calls Tryd.prog 121 #[.agg #[.int .i64 (mr o 0), .int .i64 (mr o 1), .int .i64 (mr o 2), .int .i64 (mr o 3)], .agg #[.int .i64 x, .int .i64 y]] w fun e w' => e = .returned (.agg #[.int .i64 (tX o x y), .int .i64 (tY o x y)]) ∧ Below w.heap.size w w' := by
  rcases oct h0 h7 with rfl | rfl | rfl | rfl | rfl | rfl | rfl | rfl
  all_goals
    simp only [mr, matL, tX, tY, Int.toNat_zero, Int.toNat_one, Int.reduceToNat, Nat.reduceMul, Nat.reduceAdd, List.getD_cons_succ, List.getD_cons_zero, Nat.zero_mul, Nat.one_mul, Nat.zero_add, Int.reduceEq, if_true, if_false, reduceIte]
    go_enter Tryd.func121, Tryd.ntmps121
    go_wp2_with fail
    refine bodyPost_ret (v := .agg #[.int .i64 _, .int .i64 _]) (by simp [*, results, Tryd.results121, go_sem]; exact ⟨rfl, rfl⟩) rfl ⟨?_, ?_⟩
    · refine ret_point ?_ ?_ <;> omega
    · (repeat (first | (with_reducible exact Below.refl _ _) | (with_reducible refine Ext.drewN ?_ _) | (with_reducible refine Below.drew ?_) | (with_reducible refine Ext.alloc ?_ _) | (with_reducible refine Ext.setCell ?_ (by simp; try omega) _) | (with_reducible refine Ext.trans ?_ (by assumption)) | (with_reducible assumption) | exact Below.refl _ _))

end Go.Proofs.YtdcddneanbplpaaDoor

/- The program's orientations: looking a matrix up, composing, inverting, images. Condition: the variable orientationMatrices holds its table. -/
namespace Go.Proofs.YtdcddneanbplpaaDoor
open Go.RowKit
set_option linter.unusedVariables false
set_option linter.unusedSimpArgs false
attribute [local go_sem ↓] Go.wp_at_zero Go.wp_at_succ

theorem mr_cell {w : World} (hM : Mats w) (k : Nat) (hk : k < 8) (j : Nat) (hj : j < 4) : w.cell? ⟨1, k * 4 + j, none⟩ = some (.int .i64 (mr k j)) := by
  have := hM (k * 4 + j) (by omega)
  simpa [mr] using this

theorem info_ex : ∃ i, Tryd.prog.info? 2 = some i := by
  have h : (Tryd.prog.info? 2).isSome = true := by kernel_rfl
  exact Option.isSome_iff_exists.1 h
theorem eqArr4 (a0 a1 a2 a3 b0 b1 b2 b3 : Int) (w : World) : (Op.equalIn 10000 136 (.agg #[.int .i64 a0, .int .i64 a1, .int .i64 a2, .int .i64 a3]) (.agg #[.int .i64 b0, .int .i64 b1, .int .i64 b2, .int .i64 b3])).run Tryd.prog w = .ok (a0 == b0 && (a1 == b1 && (a2 == b2 && a3 == b3))) w := by
  obtain ⟨i, hi⟩ := info_ex
  have c1 : Tryd.prog.cellsOf 2 = 1 := by kernel_rfl
  rw [run_equalIn_array w 9999 _ _ Tryd.underlying136 hi, c1]
  have r4 : List.range 4 = [0, 1, 2, 3] := rfl
  rw [r4]
  have hq : ∀ (a b : Int) (w : World), (Op.equalIn 9999 2 (.int .i64 a) (.int .i64 b)).run Tryd.prog w = .ok (a == b) w := fun a b w => run_equalIn_int w 9998 _ _ .i64 a b Tryd.underlying2
  have hp : ∀ (x0 x1 x2 x3 : Int) (w : World), (part 2 #[.int .i64 x0, .int .i64 x1, .int .i64 x2, .int .i64 x3] (0 * 1)).run Tryd.prog w = .ok (.int .i64 x0) w ∧ (part 2 #[.int .i64 x0, .int .i64 x1, .int .i64 x2, .int .i64 x3] (1 * 1)).run Tryd.prog w = .ok (.int .i64 x1) w ∧ (part 2 #[.int .i64 x0, .int .i64 x1, .int .i64 x2, .int .i64 x3] (2 * 1)).run Tryd.prog w = .ok (.int .i64 x2) w ∧ (part 2 #[.int .i64 x0, .int .i64 x1, .int .i64 x2, .int .i64 x3] (3 * 1)).run Tryd.prog w = .ok (.int .i64 x3) w :=
    fun _ _ _ _ _ => ⟨by kernel_rfl, by kernel_rfl, by kernel_rfl, by kernel_rfl⟩
  simp only [Op.eqItems, Sem.run_bind, (hp _ _ _ _ _).1, (hp _ _ _ _ _).2.1, (hp _ _ _ _ _).2.2.1, (hp _ _ _ _ _).2.2.2, Result.andThen_ok, hq, Sem.run_ite, Sem.run_pure]
  cases h0 : a0 == b0 <;> cases h1 : a1 == b1 <;> cases h2 : a2 == b2 <;> cases h3 : a3 == b3 <;> simp

theorem mr_eq : ∀ k o : Nat, k < 8 → o < 8 → (mr k 0 == mr o 0 && (mr k 1 == mr o 1 && (mr k 2 == mr o 2 && mr k 3 == mr o 3))) = decide (k = o) := by
  have h : ∀ k o : Fin 8, (mr k 0 == mr o 0 && (mr k 1 == mr o 1 && (mr k 2 == mr o 2 && mr k 3 == mr o 3))) = decide (k.1 = o.1) := by decide
  intro k o hk ho
  exact h ⟨k, hk⟩ ⟨o, ho⟩
end Go.Proofs.YtdcddneanbplpaaDoor

/- The program's orientations: composing, inverting, images. Condition: the variable orientationMatrices holds its table. -/
namespace Go.Proofs.YtdcddneanbplpaaDoor
open Go.RowKit
set_option linter.unusedVariables false
set_option linter.unusedSimpArgs false
attribute [local go_sem ↓] Go.wp_at_zero Go.wp_at_succ

/-- Orientation a first, then b. -/
def cmpO (a b : Nat) : Nat := if b < 4 then (if a < 4 then (a + b) % 4 else 4 + (a - 4 + b) % 4) else (if a < 4 then 4 + (b - 4 + (4 - a)) % 4 else (b - 4 + (8 - a)) % 4)
def invO (a : Nat) : Nat := if a < 4 then (4 - a) % 4 else a
theorem cmpO_lt : ∀ a b : Nat, a < 8 → b < 8 → cmpO a b < 8 := by
  intro a b ha hb; unfold cmpO; (repeat' split) <;> omega
theorem invO_lt : ∀ a : Nat, a < 8 → invO a < 8 := by
  intro a ha; unfold invO; split <;> omega
theorem mr_cmp : ∀ a b : Nat, a < 8 → b < 8 → tX b (mr a 0) (mr a 2) = mr (cmpO a b) 0 ∧ tX b (mr a 1) (mr a 3) = mr (cmpO a b) 1 ∧ tY b (mr a 0) (mr a 2) = mr (cmpO a b) 2 ∧ tY b (mr a 1) (mr a 3) = mr (cmpO a b) 3 := by
  have h : ∀ a b : Fin 8, tX b (mr a 0) (mr a 2) = mr (cmpO a b) 0 ∧ tX b (mr a 1) (mr a 3) = mr (cmpO a b) 1 ∧ tY b (mr a 0) (mr a 2) = mr (cmpO a b) 2 ∧ tY b (mr a 1) (mr a 3) = mr (cmpO a b) 3 := by decide
  intro a b ha hb
  exact h ⟨a, ha⟩ ⟨b, hb⟩
theorem mr_inv : ∀ a : Nat, a < 8 → mr a 0 = mr (invO a) 0 ∧ mr a 2 = mr (invO a) 1 ∧ mr a 1 = mr (invO a) 2 ∧ mr a 3 = mr (invO a) 3 := by
  have h : ∀ a : Fin 8, mr a 0 = mr (invO a) 0 ∧ mr a 2 = mr (invO a) 1 ∧ mr a 1 = mr (invO a) 2 ∧ mr a 3 = mr (invO a) 3 := by decide
  intro a ha
  exact h ⟨a, ha⟩
theorem mr_bd : ∀ a : Nat, a < 8 → (-1000 ≤ mr a 0 ∧ mr a 0 ≤ 1000) ∧ (-1000 ≤ mr a 1 ∧ mr a 1 ≤ 1000) ∧ (-1000 ≤ mr a 2 ∧ mr a 2 ≤ 1000) ∧ (-1000 ≤ mr a 3 ∧ mr a 3 ≤ 1000) := by
  have h : ∀ a : Fin 8, (-1000 ≤ mr a 0 ∧ mr a 0 ≤ 1000) ∧ (-1000 ≤ mr a 1 ∧ mr a 1 ≤ 1000) ∧ (-1000 ≤ mr a 2 ∧ mr a 2 ≤ 1000) ∧ (-1000 ≤ mr a 3 ∧ mr a 3 ≤ 1000) := by decide
  intro a ha
  exact h ⟨a, ha⟩

end Go.Proofs.YtdcddneanbplpaaDoor

/- The program's orientations and transforms: then, images of points. Condition: the variable orientationMatrices holds its table. -/
namespace Go.Proofs.YtdcddneanbplpaaDoor
open Go.RowKit
set_option linter.unusedVariables false
set_option linter.unusedSimpArgs false
attribute [local go_sem ↓] Go.wp_at_zero Go.wp_at_succ

set_option maxHeartbeats 4000000 in
theorem oImage_any (o : Nat) (x y : Int) (w : World) (ho : o < 8) (hM : Mats w) (hx : -1000000 ≤ x) (hx' : x ≤ 1000000) (hy : -1000000 ≤ y) (hy' : y ≤ 1000000) :
    Calls Tryd.prog 106 #[.int .i64 o, .agg #[.int .i64 x, .int .i64 y]] w fun e w' => e = .returned (.agg #[.int .i64 (tX o x y), .int .i64 (tY o x y)]) ∧ Below w.heap.size w w' := by
  have g0 : w.cell? ⟨1, o * 4, none⟩ = some (.int .i64 (mr o 0)) := mr_cell hM o ho 0 (by omega)
  have g1 := mr_cell hM o ho 1 (by omega)
  have g2 := mr_cell hM o ho 2 (by omega)
  have g3 := mr_cell hM o ho 3 (by omega)
  have b1 : (0 : Int) ≤ (o : Int) := by omega
  have b2 : (o : Int) < 8 := by omega
  have hms := hM.size
  have hmz := hM.ne
  go_enter Tryd.func106, Tryd.ntmps106
  go_wp2_with fail
  go_region_held3 (fun w' => w'.cell? ⟨1, o * 4, none⟩ = some (.int .i64 (mr o 0)) ∧ w'.cell? ⟨1, o * 4 + 1, none⟩ = some (.int .i64 (mr o 1)) ∧ w'.cell? ⟨1, o * 4 + 2, none⟩ = some (.int .i64 (mr o 2)) ∧ w'.cell? ⟨1, o * 4 + 3, none⟩ = some (.int .i64 (mr o 3)) ∧ w'.cell? ⟨w.heap.size, 0, none⟩ = some (.int .i64 x) ∧ w'.cell? ⟨w.heap.size, 1, none⟩ = some (.int .i64 y))
    (first | ((try dsimp only); go_split_ands; (repeat' (with_reducible refine And.intro ?_ ?_)) <;> first | ((repeat (with_reducible refine keepS ?_ (by simp; try omega) _)); (first | (with_reducible assumption) | (with_reducible exact keepC (by assumption) (by assumption)) | (with_reducible exact keepA (by assumption) _) | (with_reducible exact keepR (by assumption) (by omega) _))) | ((try simp only [World.size_alloc, World.size_setCell, World.size_drew]); omega) | (refine Mats.below hM ?_ hM.size; (repeat (first | (with_reducible exact Below.refl _ _) | (with_reducible refine Ext.drewN ?_ _) | (with_reducible refine Below.drew ?_) | (with_reducible refine Ext.alloc ?_ _) | (with_reducible refine Ext.setCell ?_ (by simp; try omega) _) | (with_reducible refine Ext.trans ?_ (by assumption)) | (with_reducible assumption) | exact Below.refl _ _)); done) | ((repeat (first | (with_reducible exact Below.refl _ _) | (with_reducible refine Ext.drewN ?_ _) | (with_reducible refine Below.drew ?_) | (with_reducible refine Ext.alloc ?_ _) | (with_reducible refine Ext.setCell ?_ (by simp; try omega) _) | (with_reducible refine Ext.trans ?_ (by assumption)) | (with_reducible assumption) | exact Below.refl _ _)); done) | (go_keep; done)))
    (first | (go_at_call 121; refine (matImage_any o x y _ b1 (by omega) hx hx' hy hy').mono ?_; rintro e w1 ⟨rfl, bw1⟩; obtain ⟨sw1, zw1, cw1, fw1⟩ := bcell bw1))
  go_wp2_with fail
  refine bodyPost_ret (v := .agg #[.int .i64 (tX o x y), .int .i64 (tY o x y)]) (by simp [*, results, Tryd.results106, go_sem]) rfl ⟨rfl, ?_⟩
  (repeat (first | (with_reducible exact Below.refl _ _) | (with_reducible refine Ext.drewN ?_ _) | (with_reducible refine Below.drew ?_) | (with_reducible refine Ext.alloc ?_ _) | (with_reducible refine Ext.setCell ?_ (by simp; try omega) _) | (with_reducible refine Ext.trans ?_ (by assumption)) | (with_reducible assumption) | exact Below.refl _ _))

end Go.Proofs.YtdcddneanbplpaaDoor

/- The composition of orientations: the model's search and the program's matrices. Condition: the variable orientationMatrices holds its table. -/
namespace Go.Proofs.YtdcddneanbplpaaDoor
open Go.RowKit
set_option linter.unusedVariables false
set_option linter.unusedSimpArgs false
attribute [local go_sem ↓] Go.wp_at_zero Go.wp_at_succ

theorem eqPt (a b c d : Int) (w : World) : (Op.equalIn 10000 70 (.agg #[.int .i64 a, .int .i64 b]) (.agg #[.int .i64 c, .int .i64 d])).run Tryd.prog w = .ok (a == c && b == d) w := by
  have hq : ∀ (a b : Int) (w : World), (Op.equalIn 9999 2 (.int .i64 a) (.int .i64 b)).run Tryd.prog w = .ok (a == b) w := fun a b w => run_equalIn_int w 9998 _ _ .i64 a b Tryd.underlying2
  have hs : Tryd.prog.stoodInHeld 70 = false := by kernel_rfl
  have hu : Tryd.prog.underlying 70 = some (.struct (Tryd.prog.fieldsOf 70)) := by kernel_rfl
  rw [run_equalIn_agg w 9999 _ _ _ hu hs]
  have hp : ∀ (x0 x1 : Int) (w : World), (part 2 #[.int .i64 x0, .int .i64 x1] 0).run Tryd.prog w = .ok (.int .i64 x0) w ∧ (part 2 #[.int .i64 x0, .int .i64 x1] 1).run Tryd.prog w = .ok (.int .i64 x1) w :=
    fun _ _ _ => ⟨by kernel_rfl, by kernel_rfl⟩
  have hf : (Tryd.prog.fieldsOf 70).toList.map (fun f => (f.name, f.type, f.offset)) = [("X", 2, 0), ("Y", 2, 1)] := by kernel_rfl
  generalize (Tryd.prog.fieldsOf 70).toList = fs at hf
  rcases fs with _ | ⟨f0, _ | ⟨f1, _ | ⟨f2, r⟩⟩⟩
  · simp at hf
  · simp at hf
  · simp only [List.map_cons, List.map_nil, List.cons.injEq, Prod.mk.injEq, and_true] at hf
    obtain ⟨⟨n0, t0, o0⟩, n1, t1, o1⟩ := hf
    simp only [Op.eqFields, n0, t0, o0, n1, t1, o1]
    simp only [ne_eq, String.reduceEq, not_false_eq_true, if_true, Sem.run_bind, (hp _ _ _).1, (hp _ _ _).2, Result.andThen_ok, hq, Sem.run_ite, Sem.run_pure]
    cases h0 : a == c <;> cases h1 : b == d <;> simp
  · simp at hf

theorem turn_cmp : ∀ a b : Nat, a < 8 → b < 8 → tX b (tX a 1 2) (tY a 1 2) = tX (cmpO a b) 1 2 ∧ tY b (tX a 1 2) (tY a 1 2) = tY (cmpO a b) 1 2 := by
  have h : ∀ a b : Fin 8, tX b (tX a 1 2) (tY a 1 2) = tX (cmpO a b) 1 2 ∧ tY b (tX a 1 2) (tY a 1 2) = tY (cmpO a b) 1 2 := by decide
  intro a b ha hb
  exact h ⟨a, ha⟩ ⟨b, hb⟩
theorem turn_inj : ∀ k c : Nat, k < 8 → c < 8 → (tX k 1 2 == tX c 1 2 && tY k 1 2 == tY c 1 2) = decide (k = c) := by
  have h : ∀ k c : Fin 8, (tX k 1 2 == tX c 1 2 && tY k 1 2 == tY c 1 2) = decide (k.1 = c.1) := by decide
  intro k c hk hc
  exact h ⟨k, hk⟩ ⟨c, hc⟩

end Go.Proofs.YtdcddneanbplpaaDoor

/- The model's source of drawn numbers: its pointer, one number, one drawn transform. Conditions: the code's bytes lie below block B, the source's struct at block g, not below B. -/
namespace Go.Proofs.YtdcddneanbplpaaDoor
open Go.RowKit
set_option linter.unusedVariables false
set_option linter.unusedSimpArgs false

/-- Only block g, and what is new, has changed. -/
abbrev Only (g : Nat) (w w' : World) : Prop := w.grownBy w' (some g)
theorem Only.refl (g : Nat) (w : World) : Only g w w := World.grownBy.refl w (some g)
theorem Only.set {g i : Nat} {a w : World} (h : Only g a w) (v : Value) : Only g a (w.setCell ⟨g, i, none⟩ v) :=
  ⟨h.os, h.tape, h.output, by simpa using h.size, fun k hk hne => by rw [Below.heap_setCell _ _ _ _ (fun e => hne (by rw [e]))]; exact h.block k hk hne⟩
theorem Only.drew {g : Nat} {a w : World} (h : Only g a w) : Only g a w.drew := ⟨h.os, h.tape, h.output, h.size, h.block⟩
theorem Only.drewN {g : Nat} {a w : World} (h : Only g a w) (n : Nat) : Only g a (w.drewN n) := ⟨h.os, h.tape, h.output, h.size, h.block⟩
theorem Only.cell {g b o : Nat} {w w' : World} {v : Value} (h : Only g w w') (hc : w.cell? ⟨b, o, none⟩ = some v) (hne : b ≠ g) : w'.cell? ⟨b, o, none⟩ = some v :=
  World.grownBy.cell h hc (by simpa using hne)
theorem Only.below {B g : Nat} {a w w' : World} (h : Below B a w) (k : Only g w w') (hB : B ≤ w.heap.size) (hg : B ≤ g) : Below B a w' :=
  h.grown k hB (fun j hj => by cases hj; exact hg)

/-- The bytes of the code: each lies below block B. -/
def CodeIs (B : Nat) (w : World) (a : Option Addr) (len : Nat) : Prop :=
  ∀ k, k < len → ∃ (b off : Nat) (v : Int), a = some ⟨b, off, none⟩ ∧ b < B ∧ w.cell? ⟨b, off + k, none⟩ = some (.int .u8 v) ∧ 0 ≤ v ∧ v ≤ 255
theorem CodeIs.below {B : Nat} {w w' : World} {a : Option Addr} {len : Nat} (h : CodeIs B w a len) (hb : Below B w w') : CodeIs B w' a len := fun k hk => by
  obtain ⟨b, off, v, h1, h2, h3, h4, h5⟩ := h k hk
  exact ⟨b, off, v, h1, h2, (hb.cell (p := ⟨b, off + k, none⟩) h2).trans h3, h4, h5⟩

/-- The source's struct at block g. -/
def SrcIs (g : Nat) (w : World) (a : Option Addr) (len cap : Nat) : Prop :=
  ∃ (k : Nat) (s : Int), k ≤ len ∧ 0 ≤ s ∧ s < 2147483647 ∧ w.cell? ⟨g, 0, none⟩ = some (.slice a len cap) ∧ w.cell? ⟨g, 1, none⟩ = some (.int .i64 k) ∧ w.cell? ⟨g, 2, none⟩ = some (.int .i64 s) ∧ w.frozen? ⟨g, 1, none⟩ = false ∧ w.frozen? ⟨g, 2, none⟩ = false

/-- What a drawn number is: r in 0..n-1; only the source has changed. -/
def Drawn (n : Int) (g : Nat) (w : World) (a : Option Addr) (len cap : Nat) (e : Ending) (w' : World) : Prop :=
  ∃ r : Int, 0 ≤ r ∧ r < n ∧ e = .returned (.int .i64 r) ∧ Only g w w' ∧ SrcIs g w' a len cap

theorem srcSet {g : Nat} {w : World} {a : Option Addr} {len cap k : Nat} {s s' : Int} (h0 : w.cell? ⟨g, 0, none⟩ = some (.slice a len cap)) (h1 : w.cell? ⟨g, 1, none⟩ = some (.int .i64 k)) (h2 : w.cell? ⟨g, 2, none⟩ = some (.int .i64 s)) (f1 : w.frozen? ⟨g, 1, none⟩ = false) (f2 : w.frozen? ⟨g, 2, none⟩ = false)
    (hk : k ≤ len) (p0 : 0 ≤ s') (p1 : s' < 2147483647) : SrcIs g (w.setCell ⟨g, 2, none⟩ (.int .i64 s')) a len cap :=
  ⟨k, s', hk, p0, p1, by rw [World.cell?_setCell_other _ _ _ _ (by simp)]; exact h0, by rw [World.cell?_setCell_other _ _ _ _ (by simp)]; exact h1, World.cell?_setCell_same _ _ _ h2, by simpa using f1, by simpa using f2⟩
theorem modP (x : Int) (h : 0 ≤ x) : 0 ≤ x % 2147483647 ∧ x % 2147483647 < 2147483647 := ⟨by omega, by omega⟩
theorem modN (x n : Int) (h : 1 < n) : 0 ≤ x % n ∧ x % n < n := ⟨Int.emod_nonneg _ (by omega), Int.emod_lt_of_pos _ (by omega)⟩

set_option maxHeartbeats 4000000 in
theorem l01Next_any (B g : Nat) (a : Option Addr) (len cap : Nat) (n : Int) (w : World) (hlen : len ≤ 8192) (h1n : 1 < n) (hn : n ≤ 1000000) (hC : CodeIs B w a len) (hS : SrcIs g w a len cap) :
    Calls Tryd.prog 90 #[.pointer (some ⟨g, 0, none⟩), .int .i64 n] w (Drawn n g w a len cap) := by
  obtain ⟨k, s, hk, hs0, hs1, c0, c1, c2, f1, f2⟩ := hS
  by_cases hlt : k < len
  · obtain ⟨b, off, v, rfl, hb, cv, hv0, hv1⟩ := hC k hlt
    have q1 : (k : Int) < (len : Int) := by omega
    have q0 : (0 : Int) ≤ (k : Int) := by omega
    by_cases h256 : 256 < n
    · go_enter Tryd.func90, Tryd.ntmps90
      go_wp2_with fail
      go_quiet (fail)
      go_wp2_with fail
      go_quiet (fail)
      go_wp2_with fail
      go_ret
      refine ⟨(s * 48271 + v + 1) % 2147483647 % n, (modN _ _ h1n).1, (modN _ _ h1n).2, rfl, ?_, ?_⟩
      · (repeat (first | (with_reducible exact Only.refl _ _) | (with_reducible refine Only.set ?_ _) | (with_reducible refine Only.drewN ?_ _) | (with_reducible refine Only.drew ?_)))
      · exact ⟨k + 1, (s * 48271 + v + 1) % 2147483647, by omega, (modP _ (by omega)).1, (modP _ (by omega)).2, by simp [*, go_sem], by simp [*, go_sem], by simp [*, go_sem], by simp [*, go_sem], by simp [*, go_sem]⟩
    · have h256' : n ≤ 256 := by omega
      go_enter Tryd.func90, Tryd.ntmps90
      go_wp2_with fail
      go_quiet (fail)
      go_wp2_with fail
      go_quiet (fail)
      go_wp2_with fail
      go_ret
      refine ⟨v % n, (modN _ _ h1n).1, (modN _ _ h1n).2, rfl, ?_, ?_⟩
      · (repeat (first | (with_reducible exact Only.refl _ _) | (with_reducible refine Only.set ?_ _) | (with_reducible refine Only.drewN ?_ _) | (with_reducible refine Only.drew ?_)))
      · exact ⟨k + 1, s, by omega, hs0, hs1, by simp [*, go_sem], by simp [*, go_sem], by simp [*, go_sem], by simp [*, go_sem], by simp [*, go_sem]⟩
  · have q1 : ¬ (k : Int) < (len : Int) := by omega
    have q2 : (len : Int) ≤ (k : Int) := by omega
    have m1 := modP (s * 48271 + 11) (by omega)
    go_enter Tryd.func90, Tryd.ntmps90
    go_wp2_with fail
    go_quiet (fail)
    go_wp2_with fail
    go_ret
    refine ⟨(s * 48271 + 11) % 2147483647 / 7 % n, (modN _ _ h1n).1, (modN _ _ h1n).2, rfl, ?_, ?_⟩
    · (repeat (first | (with_reducible exact Only.refl _ _) | (with_reducible refine Only.set ?_ _) | (with_reducible refine Only.drewN ?_ _) | (with_reducible refine Only.drew ?_)))
    · exact ⟨k, (s * 48271 + 11) % 2147483647, hk, m1.1, m1.2, by simp [*, go_sem], by simp [*, go_sem], by simp [*, go_sem], by simp [*, go_sem], by simp [*, go_sem]⟩

/-- What the source's start is: a new struct, with the code in it. -/
def Begun (w : World) (a : Option Addr) (len cap : Nat) (e : Ending) (w' : World) : Prop :=
  ∃ g : Nat, w.heap.size ≤ g ∧ g < w'.heap.size ∧ e = .returned (.pointer (some ⟨g, 0, none⟩)) ∧ Below w.heap.size w w' ∧ SrcIs g w' a len cap

set_option maxHeartbeats 4000000 in
theorem l01From_any (B : Nat) (a : Option Addr) (len cap : Nat) (w : World) (hlen : len ≤ 8192) (hB : B ≤ w.heap.size) (hC : CodeIs B w a len) :
    Calls Tryd.prog 80 #[.slice a len cap] w (Begun w a len cap) := by
  go_enter Tryd.func80, Tryd.ntmps80
  go_wp2_with fail
  go_loopw [4] (fun s4 wr => ∃ (i : Nat) (s : Int), i ≤ len ∧ s4 = .int .i64 i ∧ w.heap.size < wr.heap.size ∧ Below w.heap.size w wr ∧ 0 ≤ s ∧ s < 2147483647 ∧ wr.cell? ⟨w.heap.size, 0, none⟩ = some (.slice a len cap) ∧ wr.cell? ⟨w.heap.size, 1, none⟩ = some (.int .i64 0) ∧ wr.cell? ⟨w.heap.size, 2, none⟩ = some (.int .i64 s) ∧ wr.frozen? ⟨w.heap.size, 1, none⟩ = false ∧ wr.frozen? ⟨w.heap.size, 2, none⟩ = false) (fun s4 _ => len - (intOf s4).toNat)
  case atStart => exact ⟨0, 12345, by omega, rfl, by simp, by (repeat (first | (with_reducible exact Below.refl _ _) | (with_reducible refine Ext.drewN ?_ _) | (with_reducible refine Below.drew ?_) | (with_reducible refine Ext.alloc ?_ _) | (with_reducible refine Ext.setCell ?_ (by simp; try omega) _) | (with_reducible refine Ext.trans ?_ (by assumption)) | (with_reducible assumption) | exact Below.refl _ _)), by omega, by omega, by simp, by simp, by simp, by simp, by simp⟩
  case round =>
    obtain ⟨i, s, hi, rfl, hsz, hW, s0, s1, c0, c1, c2, f1, f2⟩ := hrel
    by_cases hlt : i < len
    · by_cases h64 : i < 64
      · obtain ⟨b, off, v, rfl, hb, cv0, hv0, hv1⟩ := hC i hlt
        have cv : wr.cell? ⟨b, off + i, none⟩ = some (.int .u8 v) := (hW.cell (p := ⟨b, off + i, none⟩) (by simp; omega)).trans cv0
        have q1 : (i : Int) < (len : Int) := by omega
        have q0 : (0 : Int) ≤ (i : Int) := by omega
        have q2 : (i : Int) < 64 := by omega
        go_wp2_with fail
        have q3 : b ≠ w.heap.size := by omega
        have hwrap : IntKind.i64.wrap (s * 31) = s * 31 := IntWalk.i64_in _ (by omega)
        have hwrap2 : IntKind.i64.wrap v = v := IntWalk.i64_in _ (by omega)
        have hwrap3 : IntKind.i64.wrap (s * 31 + v) = s * 31 + v := IntWalk.i64_in _ (by omega)
        go_region
        go_wp2_with fail
        go_roundw
        case rel =>
          have m1 := modP (s * 31 + v) (by omega)
          refine ⟨i + 1, (s * 31 + v) % 2147483647, by omega, by go_num, ?_, ?_, m1.1, m1.2, ?_, ?_, ?_, ?_, ?_⟩
          · simp; omega
          · (repeat (first | (with_reducible exact Below.refl _ _) | (with_reducible refine Ext.drewN ?_ _) | (with_reducible refine Below.drew ?_) | (with_reducible refine Ext.alloc ?_ _) | (with_reducible refine Ext.setCell ?_ (by simp; try omega) _) | (with_reducible refine Ext.trans ?_ (by assumption)) | (with_reducible assumption) | exact Below.refl _ _))
          · simp [*, go_sem]
          · simp [*, go_sem]
          · simp [*, go_sem]
          · simp [*, go_sem]
          · simp [*, go_sem]
        case measure => simp [intOf]; omega
      · have q1 : (i : Int) < (len : Int) := by omega
        have q2 : ¬ (i : Int) < 64 := by omega
        go_wp2_with fail
        go_ret
        exact ⟨w.heap.size, Nat.le_refl _, hsz, rfl, hW, ⟨0, s, by omega, s0, s1, c0, c1, c2, f1, f2⟩⟩
    · have q1 : ¬ (i : Int) < (len : Int) := by omega
      go_wp2_with fail
      go_ret
      exact ⟨w.heap.size, Nat.le_refl _, hsz, rfl, hW, ⟨0, s, by omega, s0, s1, c0, c1, c2, f1, f2⟩⟩
end Go.Proofs.YtdcddneanbplpaaDoor

/- A drawn transform. Conditions as in TrQ. -/
namespace Go.Proofs.YtdcddneanbplpaaDoor
open Go.RowKit
set_option linter.unusedVariables false
set_option linter.unusedSimpArgs false

theorem Only.trans {g : Nat} {a b c : World} (h : Only g a b) (k : Only g b c) : Only g a c :=
  ⟨k.os.trans h.os, k.tape.trans h.tape, k.output.trans h.output, Nat.le_trans h.size k.size, fun i hi hne => (k.block i (Nat.lt_of_lt_of_le hi h.size) hne).trans (h.block i hi hne)⟩
theorem Only.alloc {g : Nat} {a w : World} (h : Only g a w) (o : Obj) : Only g a (w.alloc o) := h.trans (World.grownBy_alloc w o _)
theorem Only.setNew {g b i : Nat} {a w : World} (h : Only g a w) (hb : a.heap.size ≤ b) (v : Value) : Only g a (w.setCell ⟨b, i, none⟩ v) :=
  ⟨h.os, h.tape, h.output, by simpa using h.size, fun k hk hne => by rw [Below.heap_setCell _ _ _ _ (by intro e; simp at e; omega)]; exact h.block k hk hne⟩
theorem Only.frz {g b o : Nat} {w w' : World} (h : Only g w w') (hf : w.frozen? ⟨b, o, none⟩ = false) (hlt : b < w.heap.size) (hne : b ≠ g) : w'.frozen? ⟨b, o, none⟩ = false :=
  (World.frozen?_of_block (h.block b hlt (by simpa using hne))).trans hf
theorem CodeIs.only {B g : Nat} {w w' : World} {a : Option Addr} {len : Nat} (h : CodeIs B w a len) (k : Only g w w') (hB : B ≤ w.heap.size) (hg : B ≤ g) : CodeIs B w' a len :=
  h.below (Only.below (Below.refl _ _) k hB hg)
theorem CodeIs.alloc {B : Nat} {w : World} {a : Option Addr} {len : Nat} (h : CodeIs B w a len) (hB : B ≤ w.heap.size) (o : Obj) : CodeIs B (w.alloc o) a len := h.below ((Below.refl _ _).alloc hB o)
theorem SrcIs.alloc {g : Nat} {w : World} {a : Option Addr} {len cap : Nat} (h : SrcIs g w a len cap) (o : Obj) : SrcIs g (w.alloc o) a len cap := by
  obtain ⟨k, s, h1, h2, h3, c0, c1, c2, f1, f2⟩ := h
  have hg : g < w.heap.size := World.block_lt_of_cell? w ⟨g, 0, none⟩ c0
  exact ⟨k, s, h1, h2, h3, keepA c0 o, keepA c1 o, keepA c2 o, by rw [World.frozen?_alloc_old _ _ _ (by simp; omega)]; exact f1, by rw [World.frozen?_alloc_old _ _ _ (by simp; omega)]; exact f2⟩
theorem SrcIs.set {g b i : Nat} {w : World} {a : Option Addr} {len cap : Nat} (h : SrcIs g w a len cap) (hne : b ≠ g) (v : Value) : SrcIs g (w.setCell ⟨b, i, none⟩ v) a len cap := by
  obtain ⟨k, s, h1, h2, h3, c0, c1, c2, f1, f2⟩ := h
  exact ⟨k, s, h1, h2, h3, keepS c0 hne v, keepS c1 hne v, keepS c2 hne v, by simpa using f1, by simpa using f2⟩
theorem SrcIs.drew {g : Nat} {w : World} {a : Option Addr} {len cap : Nat} (h : SrcIs g w a len cap) : SrcIs g w.drew a len cap := h
theorem CodeIs.drew {B : Nat} {w : World} {a : Option Addr} {len : Nat} (h : CodeIs B w a len) : CodeIs B w.drew a len := h
theorem SrcIs.lt {g : Nat} {w : World} {a : Option Addr} {len cap : Nat} (h : SrcIs g w a len cap) : g < w.heap.size := by
  obtain ⟨k, s, h1, h2, h3, c0, c1, c2, f1, f2⟩ := h
  exact World.block_lt_of_cell? w ⟨g, 0, none⟩ c0

/-- What a drawn transform is. -/
def DrawnT (g : Nat) (w : World) (a : Option Addr) (len cap : Nat) (e : Ending) (w' : World) : Prop :=
  ∃ o x y : Int, (0 ≤ o ∧ o ≤ 7) ∧ (-100 ≤ x ∧ x ≤ 100) ∧ (-100 ≤ y ∧ y ≤ 100) ∧ e = .returned (.agg #[.int .i64 o, .int .i64 x, .int .i64 y]) ∧ Only g w w' ∧ SrcIs g w' a len cap

set_option maxHeartbeats 4000000 in
theorem drawT_any (B g : Nat) (a : Option Addr) (len cap : Nat) (w : World) (hlen : len ≤ 8192) (hB : B ≤ w.heap.size) (hg : B ≤ g) (hC : CodeIs B w a len) (hS : SrcIs g w a len cap) :
    Calls Tryd.prog 99 #[.pointer (some ⟨g, 0, none⟩)] w (DrawnT g w a len cap) := by
  have hgl := hS.lt
  go_enter Tryd.func99, Tryd.ntmps99
  go_wp2_with fail
  refine (l01Next_any B g a len cap 8 _ hlen (by omega) (by omega) (hC.alloc hB _) (hS.alloc _)).mono ?_
  rintro e w1 ⟨r1, p1, p1', rfl, on1, hS1⟩
  have s1 := on1.size
  simp only [World.size_alloc] at s1
  have hC1 := (hC.alloc hB (.cells #[.int .i64 0, .int .i64 0, .int .i64 0] 47)).only on1 (by simp; omega) hg
  have z0 : w1.cell? ⟨w.heap.size, 0, none⟩ = some (.int .i64 0) := on1.cell (by simp) (by omega)
  have z1 : w1.cell? ⟨w.heap.size, 1, none⟩ = some (.int .i64 0) := on1.cell (by simp) (by omega)
  have z2 : w1.cell? ⟨w.heap.size, 2, none⟩ = some (.int .i64 0) := on1.cell (by simp) (by omega)
  have f0 : w1.frozen? ⟨w.heap.size, 0, none⟩ = false := on1.frz (by simp) (by simp) (by omega)
  have f1 : w1.frozen? ⟨w.heap.size, 1, none⟩ = false := on1.frz (by simp) (by simp) (by omega)
  have f2 : w1.frozen? ⟨w.heap.size, 2, none⟩ = false := on1.frz (by simp) (by simp) (by omega)
  have O1 : Only g w w1 := ((Only.refl g w).alloc _).trans on1
  clear on1
  go_wp2_with fail
  refine (l01Next_any B g a len cap 25 _ hlen (by omega) (by omega) hC1 hS1).mono ?_
  rintro e w2 ⟨r2, p2, p2', rfl, on2, hS2⟩
  have s2 := on2.size
  have hC2 := hC1.only on2 (by omega) hg
  have z0 := on2.cell z0 (by omega)
  have z1 := on2.cell z1 (by omega)
  have z2 := on2.cell z2 (by omega)
  have f0 := on2.frz f0 (by omega) (by omega)
  have f1 := on2.frz f1 (by omega) (by omega)
  have f2 := on2.frz f2 (by omega) (by omega)
  have O2 := O1.trans on2
  clear on2
  go_wp2_with fail
  refine (l01Next_any B g a len cap 25 _ hlen (by omega) (by omega) hC2 hS2).mono ?_
  rintro e w3 ⟨r3, p3, p3', rfl, on3, hS3⟩
  have s3 := on3.size
  have hC3 := hC2.only on3 (by omega) hg
  have z0 := on3.cell z0 (by omega)
  have z1 := on3.cell z1 (by omega)
  have z2 := on3.cell z2 (by omega)
  have f0 := on3.frz f0 (by omega) (by omega)
  have f1 := on3.frz f1 (by omega) (by omega)
  have f2 := on3.frz f2 (by omega) (by omega)
  have O3 := O2.trans on3
  clear on3
  go_wp2_with fail
  refine (l01Next_any B g a len cap 12 _ hlen (by omega) (by omega) (hC3.alloc (by omega) _) (hS3.alloc _)).mono ?_
  rintro e w4 ⟨r4, p4, p4', rfl, on4, hS4⟩
  have s4 := on4.size
  simp only [World.size_alloc] at s4
  have g3 := hS3.lt
  have hC4 := (hC3.alloc (by omega) (.cells #[.int .i64 r1, .int .i64 (r2 - 12), .int .i64 (r3 - 12)] 47)).only on4 (by simp; omega) hg
  have z0 : w4.cell? ⟨w.heap.size, 0, none⟩ = some (.int .i64 0) := on4.cell (keepA z0 _) (by omega)
  have z1 : w4.cell? ⟨w.heap.size, 1, none⟩ = some (.int .i64 0) := on4.cell (keepA z1 _) (by omega)
  have z2 : w4.cell? ⟨w.heap.size, 2, none⟩ = some (.int .i64 0) := on4.cell (keepA z2 _) (by omega)
  have f0 : w4.frozen? ⟨w.heap.size, 0, none⟩ = false := on4.frz (by rw [World.frozen?_alloc_old _ _ _ (by simp; omega)]; exact f0) (by simp; omega) (by omega)
  have f1 : w4.frozen? ⟨w.heap.size, 1, none⟩ = false := on4.frz (by rw [World.frozen?_alloc_old _ _ _ (by simp; omega)]; exact f1) (by simp; omega) (by omega)
  have f2 : w4.frozen? ⟨w.heap.size, 2, none⟩ = false := on4.frz (by rw [World.frozen?_alloc_old _ _ _ (by simp; omega)]; exact f2) (by simp; omega) (by omega)
  have t0 : w4.cell? ⟨w3.heap.size, 0, none⟩ = some (.int .i64 r1) := on4.cell (by simp) (by omega)
  have t1 : w4.cell? ⟨w3.heap.size, 1, none⟩ = some (.int .i64 (r2 - 12)) := on4.cell (by simp) (by omega)
  have t2 : w4.cell? ⟨w3.heap.size, 2, none⟩ = some (.int .i64 (r3 - 12)) := on4.cell (by simp) (by omega)
  have e1 : w4.frozen? ⟨w3.heap.size, 1, none⟩ = false := on4.frz (by simp) (by simp) (by omega)
  have O4 := (O3.alloc (.cells #[.int .i64 r1, .int .i64 (r2 - 12), .int .i64 (r3 - 12)] 47)).trans on4
  clear on4
  by_cases h0 : r4 = 0
  · subst h0
    go_wp2_with fail
    refine (l01Next_any B g a len cap 163 _ hlen (by omega) (by omega) hC4 hS4).mono ?_
    rintro e w5 ⟨r5, p5, p5', rfl, on5, hS5⟩
    have s5 := on5.size
    have z0 := on5.cell z0 (by omega)
    have z1 := on5.cell z1 (by omega)
    have z2 := on5.cell z2 (by omega)
    have f0 := on5.frz f0 (by omega) (by omega)
    have f1 := on5.frz f1 (by omega) (by omega)
    have f2 := on5.frz f2 (by omega) (by omega)
    have t0 := on5.cell t0 (by omega)
    have t1 := on5.cell t1 (by omega)
    have t2 := on5.cell t2 (by omega)
    have e1 := on5.frz e1 (by omega) (by omega)
    have hne : w.heap.size ≠ w3.heap.size := by omega
    have hne' : w3.heap.size ≠ w.heap.size := by omega
    have O5 := O4.trans on5
    clear on5
    go_wp2_with fail
    refine bodyPost_ret (v := .agg #[.int .i64 r1, .int .i64 (r5 - 80 - 1), .int .i64 (r3 - 12)]) (by simp [*, results, Tryd.results99, go_sem]) rfl ⟨r1, r5 - 80 - 1, r3 - 12, by omega, by omega, by omega, rfl, ?_, ?_⟩
    · exact (((O5.setNew (by omega) _).setNew (by omega) _).setNew (by omega) _).setNew (by omega) _
    · exact (((hS5.set (by omega) _).set (by omega) _).set (by omega) _).set (by omega) _
  · have hb4 : (r4 == 0) = false := by simpa using h0
    have hne : w.heap.size ≠ w3.heap.size := by omega
    have hne' : w3.heap.size ≠ w.heap.size := by omega
    go_wp2_with fail
    refine bodyPost_ret (v := .agg #[.int .i64 r1, .int .i64 (r2 - 12), .int .i64 (r3 - 12)]) (by simp [*, results, Tryd.results99, go_sem]) rfl ⟨r1, r2 - 12, r3 - 12, by omega, by omega, by omega, rfl, ?_, ?_⟩
    · exact ((O4.setNew (by omega) _).setNew (by omega) _).setNew (by omega) _
    · exact ((hS4.set (by omega) _).set (by omega) _).set (by omega) _

/-- Two drawn transforms. -/
def DrawnTT (w : World) (e : Ending) (w' : World) : Prop :=
  ∃ o x y p q r : Int, ((0 ≤ o ∧ o ≤ 7) ∧ (-100 ≤ x ∧ x ≤ 100) ∧ (-100 ≤ y ∧ y ≤ 100)) ∧ ((0 ≤ p ∧ p ≤ 7) ∧ (-100 ≤ q ∧ q ≤ 100) ∧ (-100 ≤ r ∧ r ≤ 100)) ∧ e = .returned (.tuple #[.agg #[.int .i64 o, .int .i64 x, .int .i64 y], .agg #[.int .i64 p, .int .i64 q, .int .i64 r]]) ∧ Below w.heap.size w w'

end Go.Proofs.YtdcddneanbplpaaDoor

/- The model's drawn rectangles. Conditions as in TrQ. -/
namespace Go.Proofs.YtdcddneanbplpaaDoor
open Go.RowKit
set_option linter.unusedVariables false
set_option linter.unusedSimpArgs false

/-- What a drawn rectangle is. -/
def DrawnR (g : Nat) (w : World) (a : Option Addr) (len cap : Nat) (e : Ending) (w' : World) : Prop :=
  ∃ p q r s : Int, rvB p q r s = true ∧ e = .returned (.agg #[.int .i64 p, .int .i64 q, .int .i64 r, .int .i64 s]) ∧ Only g w w' ∧ SrcIs g w' a len cap
/-- Where the source stands. -/
def SrcAt (B g : Nat) (w w' : World) (a : Option Addr) (len cap : Nat) : Prop := Only g w w' ∧ SrcIs g w' a len cap ∧ CodeIs B w' a len ∧ B ≤ w'.heap.size
theorem SrcAt.next {B g : Nat} {w w' : World} {a : Option Addr} {len cap : Nat} (h : SrcAt B g w w' a len cap) (n : Int) (hlen : len ≤ 8192) (hg : B ≤ g) (h1 : 1 < n) (h2 : n ≤ 1000000) :
    Calls Tryd.prog 90 #[.pointer (some ⟨g, 0, none⟩), .int .i64 n] w' fun e w'' => (∃ r : Int, 0 ≤ r ∧ r < n ∧ e = .returned (.int .i64 r)) ∧ SrcAt B g w w'' a len cap := by
  obtain ⟨h3, h4, h5, h6⟩ := h
  refine (l01Next_any B g a len cap n w' hlen h1 h2 h5 h4).mono ?_
  rintro e w'' ⟨r, r0, r1, rfl, on, hS⟩
  exact ⟨⟨r, r0, r1, rfl⟩, h3.trans on, hS, h5.only on h6 hg, Nat.le_trans h6 on.size⟩

set_option maxHeartbeats 4000000 in
theorem drawRect_any (B g : Nat) (a : Option Addr) (len cap : Nat) (w : World) (hlen : len ≤ 8192) (hB : B ≤ w.heap.size) (hg : B ≤ g) (hC : CodeIs B w a len) (hS : SrcIs g w a len cap) :
    Calls Tryd.prog 92 #[.pointer (some ⟨g, 0, none⟩)] w (DrawnR g w a len cap) := by
  have hgl := hS.lt
  obtain ⟨w0, hw0⟩ : ∃ w0, w0 = w.alloc (.cells #[.int .i64 0, .int .i64 0, .int .i64 0, .int .i64 0] 25) := ⟨_, rfl⟩
  have A0 := Lib.hid (show SrcAt B g w0 w0 a len cap by rw [hw0]; exact ⟨Only.refl _ _, hS.alloc _, hC.alloc hB _, by simp; omega⟩)
  have HW0 := Lib.hid (show Only g w w0 by rw [hw0]; exact (Only.refl g w).alloc _)
  have s0 : w0.heap.size = w.heap.size + 1 := by rw [hw0]; simp
  have y0 : w0.cell? ⟨w.heap.size, 0, none⟩ = some (.int .i64 0) := by rw [hw0]; simp [go_sem]
  have y1 : w0.cell? ⟨w.heap.size, 1, none⟩ = some (.int .i64 0) := by rw [hw0]; simp [go_sem]
  have y2 : w0.cell? ⟨w.heap.size, 2, none⟩ = some (.int .i64 0) := by rw [hw0]; simp [go_sem]
  have y3 : w0.cell? ⟨w.heap.size, 3, none⟩ = some (.int .i64 0) := by rw [hw0]; simp [go_sem]
  have x0 : w0.frozen? ⟨w.heap.size, 0, none⟩ = false := by rw [hw0]; simp [go_sem]
  have x1 : w0.frozen? ⟨w.heap.size, 1, none⟩ = false := by rw [hw0]; simp [go_sem]
  have x2 : w0.frozen? ⟨w.heap.size, 2, none⟩ = false := by rw [hw0]; simp [go_sem]
  have x3 : w0.frozen? ⟨w.heap.size, 3, none⟩ = false := by rw [hw0]; simp [go_sem]
  have HY := Lib.hid (And.intro (And.intro y0 y1) (And.intro y2 y3))
  have HX := Lib.hid (And.intro (And.intro x0 x1) (And.intro x2 x3))
  clear hS hC y0 y1 y2 y3 x0 x1 x2 x3
  go_enter Tryd.func92, Tryd.ntmps92
  go_wp2_with fail
  rw [← hw0]
  clear hw0
  refine (A0.out.next 22 hlen hg (by omega) (by omega)).mono ?_
  rintro e w1 ⟨⟨r1, p1, q1, rfl⟩, hA1⟩
  have A1 := Lib.hid hA1
  clear hA1 A0
  go_wp2_with fail
  refine (A1.out.next 22 hlen hg (by omega) (by omega)).mono ?_
  rintro e w2 ⟨⟨r2, p2, q2, rfl⟩, hA2⟩
  have A2 := Lib.hid hA2
  clear hA2 A1
  go_wp2_with fail
  refine (A2.out.next 16 hlen hg (by omega) (by omega)).mono ?_
  rintro e w3 ⟨⟨r3, p3, q3, rfl⟩, hA3⟩
  have A3 := Lib.hid hA3
  clear hA3 A2
  by_cases hx : r3 = 0
  · subst hx
    go_wp2_with fail
    refine (A3.out.next 3 hlen hg (by omega) (by omega)).mono ?_
    rintro e w4 ⟨⟨r4, p4, q4, rfl⟩, hA4⟩
    have A4 := Lib.hid hA4
    clear hA4 A3
    go_wp2_with fail
    refine (A4.out.next 16 hlen hg (by omega) (by omega)).mono ?_
    rintro e w5 ⟨⟨r5, p5, q5, rfl⟩, hA5⟩
    have A5 := Lib.hid hA5
    clear hA5 A4
    by_cases hy : r5 = 0
    · subst hy
      go_wp2_with fail
      refine (A5.out.next 7 hlen hg (by omega) (by omega)).mono ?_
      rintro e w6 ⟨⟨r6, p6, q6, rfl⟩, hA6⟩
      have A6 := Lib.hid hA6
      clear hA6 A5
      go_wp2_with fail
      refine (A6.out.next 7 hlen hg (by omega) (by omega)).mono ?_
      rintro e w7 ⟨⟨r7, p7, q7, rfl⟩, hA7⟩
      have A7 := Lib.hid hA7
      clear hA7 A6
      have on := A7.out.1
      have z0 := on.cell HY.out.1.1 (by omega)
      have z1 := on.cell HY.out.1.2 (by omega)
      have z2 := on.cell HY.out.2.1 (by omega)
      have z3 := on.cell HY.out.2.2 (by omega)
      have f0 := on.frz HX.out.1.1 (by omega) (by omega)
      have f1 := on.frz HX.out.1.2 (by omega) (by omega)
      have f2 := on.frz HX.out.2.1 (by omega) (by omega)
      have f3 := on.frz HX.out.2.2 (by omega) (by omega)
      have HO := Lib.hid (HW0.out.trans on)
      clear on
      go_wp2_with fail
      have HS9 := Lib.hid A7.out.2.1
      refine bodyPost_ret (v := .agg #[.int .i64 (39 - r4), .int .i64 (-40), .int .i64 (min 40 (39 - r4 + (r6 + 1))), .int .i64 (min 40 (-40 + (r7 + 1)))]) (by simp [z0, z1, z2, z3, results, Tryd.results92, go_sem]) rfl ⟨_, _, _, _, rvB_mk (by omega), rfl, ?_, ?_⟩
      · exact (((HO.out.setNew (Nat.le_refl _) _).setNew (Nat.le_refl _) _).setNew (Nat.le_refl _) _).setNew (Nat.le_refl _) _
      · exact (((HS9.out.set (by omega) _).set (by omega) _).set (by omega) _).set (by omega) _
    · have hyb : (r5 == 0) = false := by simp [hy]
      go_wp2_with fail
      refine (A5.out.next 7 hlen hg (by omega) (by omega)).mono ?_
      rintro e w6 ⟨⟨r6, p6, q6, rfl⟩, hA6⟩
      have A6 := Lib.hid hA6
      clear hA6 A5
      go_wp2_with fail
      refine (A6.out.next 7 hlen hg (by omega) (by omega)).mono ?_
      rintro e w7 ⟨⟨r7, p7, q7, rfl⟩, hA7⟩
      have A7 := Lib.hid hA7
      clear hA7 A6
      have on := A7.out.1
      have z0 := on.cell HY.out.1.1 (by omega)
      have z1 := on.cell HY.out.1.2 (by omega)
      have z2 := on.cell HY.out.2.1 (by omega)
      have z3 := on.cell HY.out.2.2 (by omega)
      have f0 := on.frz HX.out.1.1 (by omega) (by omega)
      have f1 := on.frz HX.out.1.2 (by omega) (by omega)
      have f2 := on.frz HX.out.2.1 (by omega) (by omega)
      have f3 := on.frz HX.out.2.2 (by omega) (by omega)
      have HO := Lib.hid (HW0.out.trans on)
      clear on
      go_wp2_with fail
      have HS9 := Lib.hid A7.out.2.1
      refine bodyPost_ret (v := .agg #[.int .i64 (39 - r4), .int .i64 (r2 - 12), .int .i64 (min 40 (39 - r4 + (r6 + 1))), .int .i64 (min 40 (r2 - 12 + (r7 + 1)))]) (by simp [z0, z1, z2, z3, results, Tryd.results92, go_sem]) rfl ⟨_, _, _, _, rvB_mk (by omega), rfl, ?_, ?_⟩
      · exact (((HO.out.setNew (Nat.le_refl _) _).setNew (Nat.le_refl _) _).setNew (Nat.le_refl _) _).setNew (Nat.le_refl _) _
      · exact (((HS9.out.set (by omega) _).set (by omega) _).set (by omega) _).set (by omega) _
  · have hxb : (r3 == 0) = false := by simp [hx]
    go_wp2_with fail
    refine (A3.out.next 16 hlen hg (by omega) (by omega)).mono ?_
    rintro e w4 ⟨⟨r4, p4, q4, rfl⟩, hA4⟩
    have A4 := Lib.hid hA4
    clear hA4 A3
    by_cases hy : r4 = 0
    · subst hy
      go_wp2_with fail
      refine (A4.out.next 7 hlen hg (by omega) (by omega)).mono ?_
      rintro e w5 ⟨⟨r5, p5, q5, rfl⟩, hA5⟩
      have A5 := Lib.hid hA5
      clear hA5 A4
      go_wp2_with fail
      refine (A5.out.next 7 hlen hg (by omega) (by omega)).mono ?_
      rintro e w6 ⟨⟨r6, p6, q6, rfl⟩, hA6⟩
      have A6 := Lib.hid hA6
      clear hA6 A5
      have on := A6.out.1
      have z0 := on.cell HY.out.1.1 (by omega)
      have z1 := on.cell HY.out.1.2 (by omega)
      have z2 := on.cell HY.out.2.1 (by omega)
      have z3 := on.cell HY.out.2.2 (by omega)
      have f0 := on.frz HX.out.1.1 (by omega) (by omega)
      have f1 := on.frz HX.out.1.2 (by omega) (by omega)
      have f2 := on.frz HX.out.2.1 (by omega) (by omega)
      have f3 := on.frz HX.out.2.2 (by omega) (by omega)
      have HO := Lib.hid (HW0.out.trans on)
      clear on
      go_wp2_with fail
      have HS9 := Lib.hid A6.out.2.1
      refine bodyPost_ret (v := .agg #[.int .i64 (r1 - 12), .int .i64 (-40), .int .i64 (min 40 (r1 - 12 + (r5 + 1))), .int .i64 (min 40 (-40 + (r6 + 1)))]) (by simp [z0, z1, z2, z3, results, Tryd.results92, go_sem]) rfl ⟨_, _, _, _, rvB_mk (by omega), rfl, ?_, ?_⟩
      · exact (((HO.out.setNew (Nat.le_refl _) _).setNew (Nat.le_refl _) _).setNew (Nat.le_refl _) _).setNew (Nat.le_refl _) _
      · exact (((HS9.out.set (by omega) _).set (by omega) _).set (by omega) _).set (by omega) _
    · have hyb : (r4 == 0) = false := by simp [hy]
      go_wp2_with fail
      refine (A4.out.next 7 hlen hg (by omega) (by omega)).mono ?_
      rintro e w5 ⟨⟨r5, p5, q5, rfl⟩, hA5⟩
      have A5 := Lib.hid hA5
      clear hA5 A4
      go_wp2_with fail
      refine (A5.out.next 7 hlen hg (by omega) (by omega)).mono ?_
      rintro e w6 ⟨⟨r6, p6, q6, rfl⟩, hA6⟩
      have A6 := Lib.hid hA6
      clear hA6 A5
      have on := A6.out.1
      have z0 := on.cell HY.out.1.1 (by omega)
      have z1 := on.cell HY.out.1.2 (by omega)
      have z2 := on.cell HY.out.2.1 (by omega)
      have z3 := on.cell HY.out.2.2 (by omega)
      have f0 := on.frz HX.out.1.1 (by omega) (by omega)
      have f1 := on.frz HX.out.1.2 (by omega) (by omega)
      have f2 := on.frz HX.out.2.1 (by omega) (by omega)
      have f3 := on.frz HX.out.2.2 (by omega) (by omega)
      have HO := Lib.hid (HW0.out.trans on)
      clear on
      go_wp2_with fail
      have HS9 := Lib.hid A6.out.2.1
      refine bodyPost_ret (v := .agg #[.int .i64 (r1 - 12), .int .i64 (r2 - 12), .int .i64 (min 40 (r1 - 12 + (r5 + 1))), .int .i64 (min 40 (r2 - 12 + (r6 + 1)))]) (by simp [z0, z1, z2, z3, results, Tryd.results92, go_sem]) rfl ⟨_, _, _, _, rvB_mk (by omega), rfl, ?_, ?_⟩
      · exact (((HO.out.setNew (Nat.le_refl _) _).setNew (Nat.le_refl _) _).setNew (Nat.le_refl _) _).setNew (Nat.le_refl _) _
      · exact (((HS9.out.set (by omega) _).set (by omega) _).set (by omega) _).set (by omega) _
end Go.Proofs.YtdcddneanbplpaaDoor

/- The model's drawn regions. Conditions as in TrQ. -/
namespace Go.Proofs.YtdcddneanbplpaaDoor
open Go.RowKit
set_option linter.unusedVariables false
set_option linter.unusedSimpArgs false

theorem Only.grown {g : Nat} {a w w' : World} {row : Option Nat} (h : Only g a w) (k : w.grownBy w' row) (hrow : ∀ j, row = some j → a.heap.size ≤ j) : Only g a w' :=
  ⟨k.os.trans h.os, k.tape.trans h.tape, k.output.trans h.output, Nat.le_trans h.size k.size, fun i hi hne => (k.block i (Nat.lt_of_lt_of_le hi h.size) (fun e => by have := hrow i e.symm; omega)).trans (h.block i hi hne)⟩
theorem Only.of_below {g : Nat} {a w : World} (h : Below a.heap.size a w) : Only g a w := ⟨h.os, h.tape, h.output, h.size, fun i hi _ => h.block i hi⟩
theorem SrcIs.grown {g : Nat} {w w' : World} {a : Option Addr} {len cap : Nat} {row : Option Nat} (h : SrcIs g w a len cap) (k : w.grownBy w' row) (hne : some g ≠ row) : SrcIs g w' a len cap := by
  have hl := h.lt
  obtain ⟨j, s, h1, h2, h3, c0, c1, c2, f1, f2⟩ := h
  have e := k.block g hl hne
  exact ⟨j, s, h1, h2, h3, (World.cell?_of_block (w := w) (a := ⟨g, 0, none⟩) e).trans c0, (World.cell?_of_block (w := w) (a := ⟨g, 1, none⟩) e).trans c1, (World.cell?_of_block (w := w) (a := ⟨g, 2, none⟩) e).trans c2, (World.frozen?_of_block (w := w) (a := ⟨g, 1, none⟩) e).trans f1, (World.frozen?_of_block (w := w) (a := ⟨g, 2, none⟩) e).trans f2⟩
theorem SrcIs.ext {g : Nat} {w w' : World} {a : Option Addr} {len cap : Nat} (h : SrcIs g w a len cap) (k : Below w.heap.size w w') : SrcIs g w' a len cap := by
  have hl := h.lt
  obtain ⟨j, s, h1, h2, h3, c0, c1, c2, f1, f2⟩ := h
  have e := k.block g hl
  exact ⟨j, s, h1, h2, h3, (World.cell?_of_block (w := w) (a := ⟨g, 0, none⟩) e).trans c0, (World.cell?_of_block (w := w) (a := ⟨g, 1, none⟩) e).trans c1, (World.cell?_of_block (w := w) (a := ⟨g, 2, none⟩) e).trans c2, (World.frozen?_of_block (w := w) (a := ⟨g, 1, none⟩) e).trans f1, (World.frozen?_of_block (w := w) (a := ⟨g, 2, none⟩) e).trans f2⟩
theorem SrcAt.grown {B g : Nat} {w w1 w2 : World} {a : Option Addr} {len cap : Nat} {row : Option Nat} (h : SrcAt B g w w1 a len cap) (k : w1.grownBy w2 row) (hne : some g ≠ row) (hrow : ∀ j, row = some j → w.heap.size ≤ j) (hB : B ≤ w.heap.size) : SrcAt B g w w2 a len cap :=
  ⟨h.1.grown k hrow, h.2.1.grown k hne, h.2.2.1.below ((Below.refl _ _).grown k h.2.2.2 (fun j hj => Nat.le_trans hB (hrow j hj))), Nat.le_trans h.2.2.2 k.size⟩
theorem SrcAt.ext {B g : Nat} {w w1 w2 : World} {a : Option Addr} {len cap : Nat} (h : SrcAt B g w w1 a len cap) (k : Below w1.heap.size w1 w2) : SrcAt B g w w2 a len cap :=
  ⟨h.1.trans (Only.of_below k), h.2.1.ext k, h.2.2.1.below (k.mono h.2.2.2), Nat.le_trans h.2.2.2 k.size⟩
theorem SrcAt.next2 {B g : Nat} {w w' : World} {a : Option Addr} {len cap : Nat} (h : SrcAt B g w w' a len cap) (n : Int) (hlen : len ≤ 8192) (hg : B ≤ g) (h1 : 1 < n) (h2 : n ≤ 1000000) :
    Calls Tryd.prog 90 #[.pointer (some ⟨g, 0, none⟩), .int .i64 n] w' fun e w'' => (∃ r : Int, 0 ≤ r ∧ r < n ∧ e = .returned (.int .i64 r)) ∧ Only g w' w'' ∧ SrcAt B g w w'' a len cap := by
  obtain ⟨h3, h4, h5, h6⟩ := h
  refine (l01Next_any B g a len cap n w' hlen h1 h2 h5 h4).mono ?_
  rintro e w'' ⟨r, r0, r1, rfl, on, hS⟩
  exact ⟨⟨r, r0, r1, rfl⟩, on, h3.trans on, hS, h5.only on h6 hg, Nat.le_trans h6 on.size⟩
theorem own_only {w w' : World} {B e sz n g : Nat} {v : Value} {xs : List Value} (h : w.ownsRow B e sz v n xs) (hk : Only g w w') (hg : g < B) : w'.ownsRow B e sz v n xs :=
  h.kept hk (by
    cases hv : v.ownBlock with
    | none => exact .inl rfl
    | some k => exact .inr (fun e' => by have h1 := Option.some.inj e'; have := (h.lt k hv).1; omega))
theorem SrcAt.rect {B g : Nat} {w w' : World} {a : Option Addr} {len cap : Nat} (h : SrcAt B g w w' a len cap) (hlen : len ≤ 8192) (hg : B ≤ g) :
    Calls Tryd.prog 92 #[.pointer (some ⟨g, 0, none⟩)] w' fun e w'' => (∃ p q r s : Int, rvB p q r s = true ∧ e = .returned (.agg #[.int .i64 p, .int .i64 q, .int .i64 r, .int .i64 s])) ∧ Only g w' w'' ∧ SrcAt B g w w'' a len cap := by
  obtain ⟨h3, h4, h5, h6⟩ := h
  refine (drawRect_any B g a len cap w' hlen h6 hg h5 h4).mono ?_
  rintro e w'' ⟨p, q, r, s, hv, rfl, on, hS⟩
  exact ⟨⟨p, q, r, s, hv, rfl⟩, on, h3.trans on, hS, h5.only on h6 hg, Nat.le_trans h6 on.size⟩

/-- What a drawn region is. -/
def DrawnL (B g : Nat) (w0 w : World) (a : Option Addr) (len cap : Nat) (e : Ending) (w' : World) : Prop :=
  ∃ (h c : Nat) (f : Nat → Bool), e = .returned (.slice (some ⟨h, 0, none⟩) (canonL f).length c) ∧ RecIs w.heap.size w' h (canonL f) ∧ SrcAt B g w0 w' a len cap

set_option maxHeartbeats 4000000 in
theorem drawRegion_any (B g : Nat) (a : Option Addr) (len cap : Nat) (w0 w : World) (hlen : len ≤ 8192) (hB : B ≤ w0.heap.size) (hg : B ≤ g) (hA : SrcAt B g w0 w a len cap) :
    Calls Tryd.prog 82 #[.pointer (some ⟨g, 0, none⟩)] w (DrawnL B g w0 w a len cap) := by
  obtain ⟨i0, hi, hz0, hz1, hz2⟩ := info_parts Tryd.infoR
  have hgl := hA.2.1.lt
  have hl0 := hA.1.size
  obtain ⟨wz, hwz⟩ : ∃ wz, wz = w.alloc (.cells #[] 25) := ⟨_, rfl⟩
  have sz : wz.heap.size = w.heap.size + 1 := by rw [hwz]; simp
  have A0 := Lib.hid (show SrcAt B g w0 wz a len cap by rw [hwz]; exact hA.ext ((Below.refl _ _).alloc (Nat.le_refl _) _))
  have OZ : Hid (wz.ownsRow w.heap.size 25 4 (.slice (some ⟨w.heap.size, 0, none⟩) 0 0) 0 []) := Lib.hid (by
    have hm := World.ownsRow_made (base := w.heap.size) (size := 4) (e := 25) w #[] 0 (Nat.le_refl _) (by unfold maxLen; decide) rfl
    rw [hwz]
    exact hm)
  have hwB := hA.2.2.2
  clear hA
  go_enter Tryd.func82, Tryd.ntmps82
  go_wp2_with fail
  rw [← hwz]
  clear hwz
  refine (A0.out.next2 6 hlen hg (by omega) (by omega)).mono ?_
  rintro e w1 ⟨⟨r1, p1, q1, rfl⟩, on1, hA1⟩
  have A1 := Lib.hid hA1
  have O1 := Lib.hid (own_only OZ.out on1 hgl)
  have l1 := on1.size
  clear on1 hA1 OZ A0
  go_wp2_with fail
  refine (A1.out.next2 3 hlen hg (by omega) (by omega)).mono ?_
  rintro e w2 ⟨⟨r2, p2, q2, rfl⟩, on2, hA2⟩
  have A2 := Lib.hid hA2
  have O2 := Lib.hid (own_only O1.out on2 hgl)
  have l2 := on2.size
  clear on2 hA2 O1 A1
  obtain ⟨N, hN⟩ : ∃ N : Nat, r1 + r2 = (N : Int) := ⟨(r1 + r2).toNat, by omega⟩
  have hN7 : N ≤ 7 := by omega
  have HN := Lib.hid hN
  go_wp2_with fail
  clear hN
  go_loopw [3, 4] (fun s3 s4 wr => ∃ (n h c : Nat) (l : List R4), n + l.length = N ∧ s3 = .slice (some ⟨h, 0, none⟩) l.length c ∧ s4 = .int .i64 (n : Nat) ∧ Hid (wr.ownsRow w.heap.size 25 4 (.slice (some ⟨h, 0, none⟩) l.length c) l.length (recCells l)) ∧ Hid (∀ r, r ∈ l → rvB r.a r.b r.c r.d = true) ∧ Hid (SrcAt B g w0 wr a len cap) ∧ w.heap.size ≤ wr.heap.size) (fun _ s4 _ => (intOf s4).toNat)
  case atStart => exact ⟨N, w.heap.size, 0, [], by simp, rfl, rfl, O2, Lib.hid (by simp), A2, by omega⟩
  case round =>
    obtain ⟨n, h, c, l, hnl, rfl, rfl, HO, HV, HA, hsz⟩ := hrel
    by_cases hlt : 0 < n
    · have q1 : (0 : Int) < ((n : Nat) : Int) := by omega
      have hll : l.length ≤ 7 := by omega
      go_wp2_with fail
      refine (HA.out.rect hlen hg).mono ?_
      rintro e w3 ⟨⟨v0, v1, v2, v3, hrv, rfl⟩, on3, hA3⟩
      have A3 := Lib.hid hA3
      have O3 := Lib.hid (own_only HO.out on3 hgl)
      have HV3 : Hid (∀ r, r ∈ l ++ [R4.mk v0 v1 v2 v3] → rvB r.a r.b r.c r.d = true) := Lib.hid fun r hr => by
        rcases List.mem_append.1 hr with hr | hr
        · exact HV.out r hr
        · rw [List.mem_singleton.1 hr]; exact hrv
      have l3 := on3.size
      have hl3 := hA3.1.size
      clear hA3 on3 HO HA hrv
      go_wp2_with (at_builtin; refine wpList_append_own _ rfl _ _ 38 rfl w.heap.size 25 i0 (.agg #[.int .i64 0, .int .i64 0, .int .i64 0, .int .i64 0]) 4 32 Tryd.underlying38 hi hz0 hz1 hz2 rfl (by decide) _ _ _ rfl (O3.out.alloc _) ⟨w3.heap.size, 0, none⟩ 1 1 [.int .i64 v0, .int .i64 v1, .int .i64 v2, .int .i64 v3] rfl rfl (World.news_of_block (cs := #[.int .i64 v0, .int .i64 v1, .int .i64 v2, .int .i64 v3]) (t := 25) (fr := (0, 0)) (heap_alloc_new w3 _)) (by simp [Value.oneCell']) (by unfold maxLen; omega) (by omega) (by simp; omega) ?_; intro v' w4 hown4 hgrow hnil)
      have hrow : ∀ j, (Value.slice (some ⟨h, 0, none⟩) l.length c).ownBlock = some j → w.heap.size ≤ j := fun j hj => (O3.out.lt j hj).1
      have A4 := Lib.hid ((A3.out.ext ((Below.refl _ _).alloc (Nat.le_refl _) (.cells #[.int .i64 v0, .int .i64 v1, .int .i64 v2, .int .i64 v3] 25))).grown hgrow (fun e' => by have := hrow g e'.symm; omega) (fun j hj => Nat.le_trans hl0 (hrow j hj)) hB)
      have sx := hgrow.size
      obtain ⟨h4, c4, rfl, hown5⟩ := rec_next (l := l) (r := R4.mk v0 v1 v2 v3) rfl hown4
      have O5 := Lib.hid hown5
      clear hown4 hgrow hnil hown5 hrow
      go_wp2_with fail
      go_roundw
      case rel => exact ⟨n - 1, h4, c4, l ++ [R4.mk v0 v1 v2 v3], by simp; omega, rfl, by go_num, O5, HV3, A4, by simp at sx; omega⟩
      case measure => simp [intOf]; omega
    · have q1 : ¬ (0 : Int) < ((n : Nat) : Int) := by omega
      have hI := rec_own HO.out
      have HI := Lib.hid hI
      clear hI
      have hll : l.length ≤ 1048576 := by omega
      have HVA : Hid (∀ i, i < l.length → rvB (pA l i) (pB l i) (pC l i) (pD l i) = true) := Lib.hid fun i hi => HV.out _ (List.mem_of_getElem? (getD_get hi))
      go_wp2_with fail
      refine (l03Bits_any (some ⟨h, 0, none⟩) l.length c (pA l) (pB l) (pC l) (pD l) _ hll HI.out.rects HVA.out).mono ?_
      rintro e w5 ⟨⟨g5, rfl, hg5, hb5⟩, bw5⟩
      have HB5 := Lib.hid hb5
      clear hb5
      go_wp2_with fail
      refine (l03Canon_any g5 6400 (covF (pA l) (pB l) (pC l) (pD l) l.length) _ HB5.out).mono ?_
      rintro e w6 ⟨⟨h6, c6, rfl, hI6⟩, bw6⟩
      have HI6 := Lib.hid hI6
      clear hI6
      have A6 := Lib.hid ((HA.out.ext bw5).ext bw6)
      go_wp2_with fail
      go_ret
      exact ⟨h6, c6, _, rfl, ⟨by have := HI6.out.1; have := bw5.size; omega, HI6.out.2⟩, A6.out⟩
end Go.Proofs.YtdcddneanbplpaaDoor

/- Areas of combined sets. No run. -/
namespace Go.Proofs.YtdcddneanbplpaaDoor
open Go.RowKit
set_option linter.unusedVariables false
set_option linter.unusedSimpArgs false

/-- The area of a list. -/
def areaL (l : List R4) : Int := areaR (pA l) (pB l) (pC l) (pD l) l.length
theorem cntF_congr {f g : Nat → Bool} : ∀ n, (∀ k, k < n → f k = g k) → cntF f n = cntF g n
  | 0, _ => rfl
  | n + 1, h => by rw [cntF, cntF, cntF_congr n (fun k hk => h k (by omega)), h n (by omega)]
theorem area_canon (f : Nat → Bool) : areaL (canonL f) = cntF f 6400 := by
  unfold areaL areaR
  rw [if_pos (okR_canonL f)]
  exact cntF_congr 6400 fun k hk => cov_canonL_all f hk
theorem cntF_add (f g : Nat → Bool) : ∀ n, cntF (fun i => tt 14 (f i) (g i)) n + cntF (fun i => tt 8 (f i) (g i)) n = cntF f n + cntF g n
  | 0 => rfl
  | n + 1 => by
    have ih := cntF_add f g n
    rw [cntF, cntF, cntF, cntF]
    have e : (if tt 14 (f n) (g n) = true then (1 : Int) else 0) + (if tt 8 (f n) (g n) = true then 1 else 0) = (if f n = true then 1 else 0) + (if g n = true then 1 else 0) := by
      cases f n <;> cases g n <;> rfl
    omega
/-- Areas add up. -/
theorem areas_add {P Q R S : Nat → Int} {n : Nat} {A B C D : Nat → Int} {k : Nat} (h1 : okR P Q R S n = true) (h2 : okR A B C D k = true) :
    areaL (opL 14 P Q R S n A B C D k) + areaL (opL 8 P Q R S n A B C D k) = areaR P Q R S n + areaR A B C D k := by
  have e : ∀ op, opL op P Q R S n A B C D k = canonL (opF op P Q R S n A B C D k) := fun op => by unfold opL; rw [h1, h2]; rfl
  rw [e, e, area_canon, area_canon]
  unfold areaR
  rw [if_pos h1, if_pos h2]
  exact cntF_add _ _ 6400

/-- An operation on two canonical lists. -/
theorem opL_canon (op : Nat) (f g : Nat → Bool) : opL op (pA (canonL f)) (pB (canonL f)) (pC (canonL f)) (pD (canonL f)) (canonL f).length (pA (canonL g)) (pB (canonL g)) (pC (canonL g)) (pD (canonL g)) (canonL g).length = canonL (fun k => tt op (f k) (g k)) := by
  unfold opL
  rw [okR_canonL, okR_canonL, if_pos (by rfl)]
  refine canonL_congr fun k hk => ?_
  unfold opF
  rw [cov_canonL_all f hk, cov_canonL_all g hk]
theorem cmL_canon (f : Nat → Bool) : cmL (pA (canonL f)) (pB (canonL f)) (pC (canonL f)) (pD (canonL f)) (canonL f).length = canonL (fun k => !(f k)) := by
  unfold cmL
  rw [okR_canonL, if_pos rfl]
  refine canonL_congr fun k hk => ?_
  unfold opF
  rw [cov_canonL_all f hk]
  cases f k <;> rfl
/-- A region's list is the canonical one of its cells. -/
theorem okR_list {P Q R S : Nat → Int} {n : Nat} (h : okR P Q R S n = true) : listR P Q R S n = canonL (covF P Q R S n) := ((okR_iff P Q R S n).1 h).2.symm
theorem canonL_none_iff (F : Nat → Bool) : (canonL F).length = 0 ↔ ∀ k, k < 6400 → F k = false := by
  constructor
  · intro h k hk
    have hc := cov_canonL_all F hk
    rw [h] at hc
    rw [← hc]
    rfl
  · intro h
    have e : canonL F = canonL (fun _ => false) := canonL_congr h
    have hr : ∀ y k, runsTo (fun _ => false) y k = [] := fun y k => by
      have hh : ∀ x, hasB (fun _ => false) x y = false := fun x => by unfold hasB; rw [Bool.and_false]
      induction k with
      | zero => rfl
      | succ k ih => rw [runsTo, if_neg (by unfold chg; rw [hh, hh]; simp), ih]
    have hc : ∀ n y, canonF (fun _ => false) n y = [] := fun n => by
      induction n with
      | zero => intro y; rfl
      | succ n ih =>
        intro y
        rw [canonF]
        split
        · rw [show runsL (fun _ => false) y = [] from hr y 81, ih]; rfl
        · rfl
    rw [e, show canonL (fun _ => false) = [] from hc 80 (-40)]
    rfl
end Go.Proofs.YtdcddneanbplpaaDoor

/- The model's spoiled regions; the laws' copies of lists. Conditions as in TrQ. -/
namespace Go.Proofs.YtdcddneanbplpaaDoor
open Go.RowKit
set_option linter.unusedVariables false
set_option linter.unusedSimpArgs false

theorem rec_cells {B h : Nat} {w : World} {l : List R4} (hR : RecIs B w h l) : ∀ j u, (recCells l)[j]? = some u → w.cell? ((⟨h, 0, none⟩ : Addr).add j) = some u := fun j u hj => by
  have hlt : j < (recCells l).length := by
    rcases Nat.lt_or_ge j (recCells l).length with k | k
    · exact k
    · rw [List.getElem?_eq_none k] at hj; cases hj
  rw [recCells_len] at hlt
  have hi : j / 4 < l.length := by omega
  have hg := getD_get hi
  obtain ⟨r0, r1, r2, r3⟩ := recCells_at l (j / 4) _ hg
  obtain ⟨c0, c1, c2, c3⟩ := hR.2.2 (j / 4) _ hg
  rw [addG]
  have h4 : j % 4 < 4 := Nat.mod_lt _ (by omega)
  have e : j = j / 4 * 4 + j % 4 := by omega
  generalize j / 4 = q at *
  generalize j % 4 = t at *
  subst e
  match t, h4 with
  | 0, _ => rw [Nat.add_zero] at hj ⊢; rw [r0] at hj; cases hj; exact c0
  | 1, _ => rw [r1] at hj; cases hj; exact c1
  | 2, _ => rw [r2] at hj; cases hj; exact c2
  | 3, _ => rw [r3] at hj; cases hj; exact c3
theorem rec_one (l : List R4) : ∀ u ∈ recCells l, u.oneCell' = true := fun u hu => by
  unfold recCells at hu
  obtain ⟨r, hr, hu⟩ := List.mem_flatMap.1 hu
  unfold r4cells at hu
  simp at hu
  rcases hu with rfl | rfl | rfl | rfl <;> rfl
theorem RecIs.ext {B h : Nat} {w w' : World} {l : List R4} (hR : RecIs B w h l) (hb : Below w.heap.size w w') : RecIs B w' h l :=
  ⟨hR.1, Nat.lt_of_lt_of_le hR.2.1 hb.size, fun i r hr => by
    obtain ⟨c0, c1, c2, c3⟩ := hR.2.2 i r hr
    exact ⟨(hb.cell (p := ⟨h, i * 4, none⟩) hR.2.1).trans c0, (hb.cell (p := ⟨h, i * 4 + 1, none⟩) hR.2.1).trans c1, (hb.cell (p := ⟨h, i * 4 + 2, none⟩) hR.2.1).trans c2, (hb.cell (p := ⟨h, i * 4 + 3, none⟩) hR.2.1).trans c3⟩⟩
theorem RecIs.only {B g h : Nat} {w w' : World} {l : List R4} (hR : RecIs B w h l) (on : Only g w w') (hg : g < B) : RecIs B w' h l :=
  ⟨hR.1, Nat.lt_of_lt_of_le hR.2.1 on.size, fun i r hr => by
    obtain ⟨c0, c1, c2, c3⟩ := hR.2.2 i r hr
    have hne : h ≠ g := by have := hR.1; omega
    exact ⟨on.cell c0 hne, on.cell c1 hne, on.cell c2 hne, on.cell c3 hne⟩⟩
theorem RecIs.lower {B C h : Nat} {w : World} {l : List R4} (hR : RecIs B w h l) (hC : C ≤ B) : RecIs C w h l := ⟨Nat.le_trans hC hR.1, hR.2⟩
/-- A copy in a row of its own. -/
def CopyL (w : World) (l : List R4) (e : Ending) (w' : World) : Prop := ∃ (h c : Nat), e = .returned (.slice (some ⟨h, 0, none⟩) l.length c) ∧ l.length ≤ c ∧ RecIs w.heap.size w' h l ∧ Below w.heap.size w w'
theorem own_some {w : World} {B n : Nat} {v : Value} {l : List R4} (hn : n = l.length) (h : w.ownsRow B 25 4 v n (recCells l)) (hv : v ≠ .slice none 0 0) : ∃ h' c, v = .slice (some ⟨h', 0, none⟩) l.length c ∧ l.length ≤ c ∧ w.ownsRow B 25 4 (.slice (some ⟨h', 0, none⟩) l.length c) l.length (recCells l) := by
  subst hn
  rcases h.2 with ⟨rfl, _⟩ | ⟨g, cap, cur, rfl, _, _, h3, _⟩
  · exact absurd rfl hv
  · exact ⟨g, cap, rfl, h3, h⟩
set_option maxHeartbeats 4000000 in
theorem copyRects_any (B h c : Nat) (l : List R4) (w : World) (hl : l.length ≤ 1048576) (hR : RecIs B w h l) :
    Calls Tryd.prog 45 #[.slice (some ⟨h, 0, none⟩) l.length c] w (CopyL w l) := by
  obtain ⟨i0, hi, hz0, hz1, hz2⟩ := info_parts Tryd.infoR
  obtain ⟨wz, hwz⟩ : ∃ wz, wz = w.alloc (.cells #[] 25) := ⟨_, rfl⟩
  have sz : wz.heap.size = w.heap.size + 1 := by rw [hwz]; simp
  have bz : Below w.heap.size w wz := by rw [hwz]; (repeat (first | (with_reducible exact Below.refl _ _) | (with_reducible refine Ext.drewN ?_ _) | (with_reducible refine Below.drew ?_) | (with_reducible refine Ext.alloc ?_ _) | (with_reducible refine Ext.setCell ?_ (by simp; try omega) _) | (with_reducible refine Ext.trans ?_ (by assumption)) | (with_reducible assumption) | exact Below.refl _ _))
  have OZ : Hid (wz.ownsRow w.heap.size 25 4 (.slice (some ⟨w.heap.size, 0, none⟩) 0 0) 0 []) := Lib.hid (by
    have hm := World.ownsRow_made (base := w.heap.size) (size := 4) (e := 25) w #[] 0 (Nat.le_refl _) (by unfold maxLen; decide) rfl
    rw [hwz]
    exact hm)
  have HR := Lib.hid (hR.ext bz)
  clear hR
  go_enter Tryd.func45, Tryd.ntmps45
  go_upto_region 1 with fail
  refine wp_region_lit ?_
  go_wp2_with (at_builtin; rw [← hwz]; refine wpList_append_own _ rfl _ _ 38 rfl w.heap.size 25 i0 (.agg #[.int .i64 0, .int .i64 0, .int .i64 0, .int .i64 0]) 4 32 Tryd.underlying38 hi hz0 hz1 hz2 rfl (by decide) _ _ _ rfl OZ.out ⟨h, 0, none⟩ l.length c (recCells l) rfl (recCells_len l) (rec_cells HR.out) (rec_one l) (by unfold maxLen; omega) (by omega) (by omega) ?_; intro v' w4 hown4 hgrow hnil)
  have hnn : v' ≠ .slice none 0 0 := fun e => by have := (hnil.1 e).1; cases this
  obtain ⟨h4, c4, rfl, hc4, hown5⟩ := own_some (l := l) (by omega) hown4 hnn
  have b4 : Below w.heap.size w w4 := bz.grown hgrow bz.size (fun j hj => (OZ.out.lt j hj).1)
  have HI := Lib.hid (rec_own hown5)
  clear hown4 hown5 hgrow hnil hnn
  go_wp2_with fail
  go_ret
  exact ⟨h4, c4, rfl, hc4, HI.out, b4⟩
end Go.Proofs.YtdcddneanbplpaaDoor

/- The model's spoiled regions. Conditions as in TrQ. -/
namespace Go.Proofs.YtdcddneanbplpaaDoor
open Go.RowKit
set_option linter.unusedVariables false
set_option linter.unusedSimpArgs false

set_option maxHeartbeats 4000000 in
theorem next1_any (g : Nat) (n : Int) (w : World) (hn : n ≤ 1) :
    Calls Tryd.prog 90 #[.pointer (some ⟨g, 0, none⟩), .int .i64 n] w fun e w' => e = .returned (.int .i64 0) ∧ w = w' := by
  go_enter Tryd.func90, Tryd.ntmps90
  go_wp2_with fail
  go_ret
  exact ⟨rfl, rfl⟩
/-- A number below a length. -/
theorem SrcAt.len {B g : Nat} {w w' : World} {a : Option Addr} {len cap : Nat} (h : SrcAt B g w w' a len cap) (m : Nat) (hlen : len ≤ 8192) (hg : B ≤ g) (h1 : 0 < m) (h2 : m ≤ 1000000) :
    Calls Tryd.prog 90 #[.pointer (some ⟨g, 0, none⟩), .int .i64 (m : Int)] w' fun e w'' => (∃ i : Nat, i < m ∧ e = .returned (.int .i64 (i : Int))) ∧ Only g w' w'' ∧ SrcAt B g w w'' a len cap := by
  by_cases hm : m = 1
  · subst hm
    refine (next1_any g _ w' (by omega)).mono ?_
    rintro e w'' ⟨rfl, rfl⟩
    exact ⟨⟨0, by omega, rfl⟩, Only.refl _ _, h⟩
  · refine (h.next2 (m : Int) hlen hg (by omega) (by omega)).mono ?_
    rintro e w'' ⟨⟨r, r0, r1, rfl⟩, on, hA⟩
    obtain ⟨i, rfl⟩ := Int.eq_ofNat_of_zero_le r0
    exact ⟨⟨i, by omega, rfl⟩, on, hA⟩
theorem SrcAt.setNew {B g b i : Nat} {w0 w : World} {a : Option Addr} {len cap : Nat} (h : SrcAt B g w0 w a len cap) (hb : w0.heap.size ≤ b) (hne : b ≠ g) (hB : B ≤ w0.heap.size) (v : Value) : SrcAt B g w0 (w.setCell ⟨b, i, none⟩ v) a len cap :=
  ⟨h.1.setNew hb v, h.2.1.set hne v, h.2.2.1.below ((Below.refl _ _).setCell (p := ⟨b, i, none⟩) (show B ≤ b by omega) v), by simpa using h.2.2.2⟩
set_option maxHeartbeats 4000000 in
theorem spoil1_any (B g : Nat) (p q r s : Int) (a : Option Addr) (len cap : Nat) (w0 w : World) (hlen : len ≤ 8192) (hg : B ≤ g) (hB : B ≤ w0.heap.size) (hA : SrcAt B g w0 w a len cap) :
    Calls Tryd.prog 91 #[.pointer (some ⟨g, 0, none⟩), .agg #[.int .i64 p, .int .i64 q, .int .i64 r, .int .i64 s], .int .i64 1] w fun e w' => (∃ p' q' r' s' : Int, e = .returned (.agg #[.int .i64 p', .int .i64 q', .int .i64 r', .int .i64 s'])) ∧ Only g w w' ∧ SrcAt B g w0 w' a len cap := by
  have hgl := hA.2.1.lt
  have hl00 := hA.1.size
  obtain ⟨wz, hwz⟩ : ∃ wz, wz = (w.alloc (.cells #[.int .i64 p, .int .i64 q, .int .i64 r, .int .i64 s] 25)).alloc (.cells #[.int .i64 0, .int .i64 0, .int .i64 0, .int .i64 0] 25) := ⟨_, rfl⟩
  have sz : wz.heap.size = w.heap.size + 2 := by rw [hwz]; simp
  have bz : Below w.heap.size w wz := by rw [hwz]; (repeat (first | (with_reducible exact Below.refl _ _) | (with_reducible refine Ext.drewN ?_ _) | (with_reducible refine Below.drew ?_) | (with_reducible refine Ext.alloc ?_ _) | (with_reducible refine Ext.setCell ?_ (by simp; try omega) _) | (with_reducible refine Ext.trans ?_ (by assumption)) | (with_reducible assumption) | exact Below.refl _ _))
  have HC : Hid ((wz.cell? ⟨w.heap.size, 0, none⟩ = some (.int .i64 p) ∧ wz.cell? ⟨w.heap.size, 1, none⟩ = some (.int .i64 q) ∧ wz.cell? ⟨w.heap.size, 2, none⟩ = some (.int .i64 r) ∧ wz.cell? ⟨w.heap.size, 3, none⟩ = some (.int .i64 s)) ∧ wz.cell? ⟨w.heap.size + 1, 0, none⟩ = some (.int .i64 0) ∧ wz.cell? ⟨w.heap.size + 1, 1, none⟩ = some (.int .i64 0) ∧ wz.cell? ⟨w.heap.size + 1, 2, none⟩ = some (.int .i64 0) ∧ wz.cell? ⟨w.heap.size + 1, 3, none⟩ = some (.int .i64 0)) := Lib.hid (by rw [hwz]; simp [go_sem])
  have HF : Hid (∀ b i, b = w.heap.size ∨ b = w.heap.size + 1 → i < 4 → wz.frozen? ⟨b, i, none⟩ = false) := Lib.hid fun b i hb hi => by
    rw [hwz]
    rcases hb with rfl | rfl <;> simp [go_sem]
  have A0 := Lib.hid (hA.ext bz)
  have HW := Lib.hid (Only.of_below (g := g) bz)
  clear hA
  go_enter Tryd.func91, Tryd.ntmps91
  go_wp2_with fail
  rw [← hwz]
  clear hwz bz
  refine (next1_any g 1 _ (by omega)).mono ?_
  rintro e w1 ⟨rfl, rfl⟩
  go_wp2_with fail
  refine (A0.out.next2 4 hlen hg (by omega) (by omega)).mono ?_
  rintro e w1 ⟨⟨r4, p4, q4, rfl⟩, on, hA1⟩
  obtain ⟨⟨c0, c1, c2, c3⟩, d0, d1, d2, d3⟩ := HC.out
  have c0 := on.cell c0 (by omega)
  have c1 := on.cell c1 (by omega)
  have c2 := on.cell c2 (by omega)
  have c3 := on.cell c3 (by omega)
  have d0 := on.cell d0 (by omega)
  have d1 := on.cell d1 (by omega)
  have d2 := on.cell d2 (by omega)
  have d3 := on.cell d3 (by omega)
  have f0 := on.frz (HF.out (w.heap.size) 0 (.inl rfl) (by omega)) (by omega) (by omega)
  have f1 := on.frz (HF.out (w.heap.size) 1 (.inl rfl) (by omega)) (by omega) (by omega)
  have f2 := on.frz (HF.out (w.heap.size) 2 (.inl rfl) (by omega)) (by omega) (by omega)
  have f3 := on.frz (HF.out (w.heap.size) 3 (.inl rfl) (by omega)) (by omega) (by omega)
  have e0 := on.frz (HF.out (w.heap.size + 1) 0 (.inr rfl) (by omega)) (by omega) (by omega)
  have e1 := on.frz (HF.out (w.heap.size + 1) 1 (.inr rfl) (by omega)) (by omega) (by omega)
  have e2 := on.frz (HF.out (w.heap.size + 1) 2 (.inr rfl) (by omega)) (by omega) (by omega)
  have e3 := on.frz (HF.out (w.heap.size + 1) 3 (.inr rfl) (by omega)) (by omega) (by omega)
  have HON := Lib.hid (HW.out.trans on)
  have HA1 := Lib.hid hA1
  have hs1 := on.size
  clear on hA1 HC HF A0 HW
  have h4 : r4 = 0 ∨ r4 = 1 ∨ r4 = 2 ∨ r4 = 3 := by omega
  have hl0 := HA1.out.1.size
  have hw0 : w0.heap.size ≤ w.heap.size := hl00
  rcases h4 with rfl | rfl | rfl | rfl
  · go_wp2_with fail
    refine bodyPost_ret (v := .agg #[.int .i64 p, .int .i64 q, .int .i64 p, .int .i64 s]) (by simp [d0, d1, d2, d3, e0, e1, e2, e3, results, Tryd.results91, go_sem]) rfl ⟨⟨_, _, _, _, rfl⟩, ?_, ?_⟩
    · exact ((((HON.out.setNew (Nat.le_refl _) _).setNew (Nat.le_succ _) _).setNew (Nat.le_succ _) _).setNew (Nat.le_succ _) _).setNew (Nat.le_succ _) _
    · exact ((((HA1.out.setNew hw0 (by omega) hB _).setNew (by omega) (by omega) hB _).setNew (by omega) (by omega) hB _).setNew (by omega) (by omega) hB _).setNew (by omega) (by omega) hB _
  · go_wp2_with fail
    refine bodyPost_ret (v := .agg #[.int .i64 p, .int .i64 q, .int .i64 r, .int .i64 (wrap64 (q - 1))]) (by simp [d0, d1, d2, d3, e0, e1, e2, e3, results, Tryd.results91, go_sem]) rfl ⟨⟨_, _, _, _, rfl⟩, ?_, ?_⟩
    · exact ((((HON.out.setNew (Nat.le_refl _) _).setNew (Nat.le_succ _) _).setNew (Nat.le_succ _) _).setNew (Nat.le_succ _) _).setNew (Nat.le_succ _) _
    · exact ((((HA1.out.setNew hw0 (by omega) hB _).setNew (by omega) (by omega) hB _).setNew (by omega) (by omega) hB _).setNew (by omega) (by omega) hB _).setNew (by omega) (by omega) hB _
  · go_wp2_with fail
    refine bodyPost_ret (v := .agg #[.int .i64 (-41), .int .i64 q, .int .i64 r, .int .i64 s]) (by simp [d0, d1, d2, d3, e0, e1, e2, e3, results, Tryd.results91, go_sem]) rfl ⟨⟨_, _, _, _, rfl⟩, ?_, ?_⟩
    · exact ((((HON.out.setNew (Nat.le_refl _) _).setNew (Nat.le_succ _) _).setNew (Nat.le_succ _) _).setNew (Nat.le_succ _) _).setNew (Nat.le_succ _) _
    · exact ((((HA1.out.setNew hw0 (by omega) hB _).setNew (by omega) (by omega) hB _).setNew (by omega) (by omega) hB _).setNew (by omega) (by omega) hB _).setNew (by omega) (by omega) hB _
  · go_wp2_with fail
    refine bodyPost_ret (v := .agg #[.int .i64 p, .int .i64 q, .int .i64 r, .int .i64 41]) (by simp [d0, d1, d2, d3, e0, e1, e2, e3, results, Tryd.results91, go_sem]) rfl ⟨⟨_, _, _, _, rfl⟩, ?_, ?_⟩
    · exact ((((HON.out.setNew (Nat.le_refl _) _).setNew (Nat.le_succ _) _).setNew (Nat.le_succ _) _).setNew (Nat.le_succ _) _).setNew (Nat.le_succ _) _
    · exact ((((HA1.out.setNew hw0 (by omega) hB _).setNew (by omega) (by omega) hB _).setNew (by omega) (by omega) hB _).setNew (by omega) (by omega) hB _).setNew (by omega) (by omega) hB _

theorem RecIs.ofOwn {w : World} {B h c : Nat} {l : List R4} (h' : w.ownsRow B 25 4 (.slice (some ⟨h, 0, none⟩) l.length c) l.length (recCells l)) : RecIs B w h l ∧ ∀ j, w.frozen? ⟨h, j, none⟩ = false := ⟨rec_own h', fun j => by
  obtain ⟨cur, hc⟩ := own_row h'
  exact frozen_of_row _ _ _ _ _ hc⟩
theorem RecIs.set2 {B h i : Nat} {w : World} {l : List R4} (hR : RecIs B w h l) (hi : i < l.length) (v : Int) : RecIs B (w.setCell ⟨h, i * 4 + 2, none⟩ (.int .i64 v)) h (l.set i { l.getD i default with c := v }) := by
  refine ⟨hR.1, by simpa using hR.2.1, fun k r hk => ?_⟩
  have hkl : k < l.length := by
    rcases Nat.lt_or_ge k l.length with h' | h'
    · exact h'
    · rw [List.getElem?_eq_none (by simpa using h')] at hk; cases hk
  by_cases e : k = i
  · subst e
    rw [List.getElem?_set_self hkl] at hk
    cases hk
    obtain ⟨c0, c1, c2, c3⟩ := hR.2.2 k _ (getD_get hkl)
    exact ⟨by rw [World.cell?_setCell_other _ _ _ _ (by simp <;> omega)]; exact c0, by rw [World.cell?_setCell_other _ _ _ _ (by simp <;> omega)]; exact c1, World.cell?_setCell_same _ _ _ c2, by rw [World.cell?_setCell_other _ _ _ _ (by simp <;> omega)]; exact c3⟩
  · rw [List.getElem?_set_ne (Ne.symm e)] at hk
    obtain ⟨c0, c1, c2, c3⟩ := hR.2.2 k _ hk
    exact ⟨by rw [World.cell?_setCell_other _ _ _ _ (by simp <;> omega)]; exact c0, by rw [World.cell?_setCell_other _ _ _ _ (by simp <;> omega)]; exact c1, by rw [World.cell?_setCell_other _ _ _ _ (by simp <;> omega)]; exact c2, by rw [World.cell?_setCell_other _ _ _ _ (by simp <;> omega)]; exact c3⟩
theorem RecIs.set4 {B h i : Nat} {w : World} {l : List R4} (hR : RecIs B w h l) (hi : i < l.length) (p q r s : Int) :
    RecIs B ((((w.setCell ⟨h, i * 4, none⟩ (.int .i64 p)).setCell ⟨h, i * 4 + 1, none⟩ (.int .i64 q)).setCell ⟨h, i * 4 + 2, none⟩ (.int .i64 r)).setCell ⟨h, i * 4 + 3, none⟩ (.int .i64 s)) h (l.set i ⟨p, q, r, s⟩) := by
  refine ⟨hR.1, by simpa using hR.2.1, fun k x hk => ?_⟩
  have hkl : k < l.length := by
    rcases Nat.lt_or_ge k l.length with h' | h'
    · exact h'
    · rw [List.getElem?_eq_none (by simpa using h')] at hk; cases hk
  by_cases e : k = i
  · subst e
    rw [List.getElem?_set_self hkl] at hk
    cases hk
    obtain ⟨c0, c1, c2, c3⟩ := hR.2.2 k _ (getD_get hkl)
    simp [go_sem, c0, c1, c2, c3]
  · rw [List.getElem?_set_ne (Ne.symm e)] at hk
    obtain ⟨c0, c1, c2, c3⟩ := hR.2.2 k _ hk
    have o : ∀ (w' : World) (j t : Nat) (v : Value), (j = k * 4 ∨ j = k * 4 + 1 ∨ j = k * 4 + 2 ∨ j = k * 4 + 3) → (t = i * 4 ∨ t = i * 4 + 1 ∨ t = i * 4 + 2 ∨ t = i * 4 + 3) → (w'.setCell ⟨h, t, none⟩ v).cell? ⟨h, j, none⟩ = w'.cell? ⟨h, j, none⟩ := fun w' j t v hj ht => World.cell?_setCell_other _ _ _ _ (by simp <;> omega)
    refine ⟨?_, ?_, ?_, ?_⟩
    · rw [o _ _ _ _ (by omega) (by omega), o _ _ _ _ (by omega) (by omega), o _ _ _ _ (by omega) (by omega), o _ _ _ _ (by omega) (by omega)]; exact c0
    · rw [o _ _ _ _ (by omega) (by omega), o _ _ _ _ (by omega) (by omega), o _ _ _ _ (by omega) (by omega), o _ _ _ _ (by omega) (by omega)]; exact c1
    · rw [o _ _ _ _ (by omega) (by omega), o _ _ _ _ (by omega) (by omega), o _ _ _ _ (by omega) (by omega), o _ _ _ _ (by omega) (by omega)]; exact c2
    · rw [o _ _ _ _ (by omega) (by omega), o _ _ _ _ (by omega) (by omega), o _ _ _ _ (by omega) (by omega), o _ _ _ _ (by omega) (by omega)]; exact c3
end Go.Proofs.YtdcddneanbplpaaDoor

/- The model's spoiled regions. Conditions as in TrQ. -/
namespace Go.Proofs.YtdcddneanbplpaaDoor
open Go.RowKit
set_option linter.unusedVariables false
set_option linter.unusedSimpArgs false

/-- What a drawn list of rectangles is. -/
def Spoilt (Bs B g : Nat) (w0 : World) (a : Option Addr) (len cap : Nat) (e : Ending) (w' : World) : Prop :=
  ∃ (h c : Nat) (l : List R4), e = .returned (.slice (some ⟨h, 0, none⟩) l.length c) ∧ l.length ≤ 3281 ∧ RecIs Bs w' h l ∧ SrcAt B g w0 w' a len cap

set_option maxRecDepth 100000 in
set_option maxHeartbeats 4000000 in
theorem spoil_any (Bs B g h c : Nat) (l : List R4) (n : Int) (a : Option Addr) (len cap : Nat) (w0 w : World) (hlen : len ≤ 8192) (hg : B ≤ g) (hB : B ≤ w0.heap.size) (hA : SrcAt B g w0 w a len cap) (hgB : g < Bs) (hBs : Bs ≤ w.heap.size) (hl : l.length ≤ 3280) (hR : RecIs Bs w h l) (h1n : 1 < n) (hn : n ≤ 1000) :
    Calls Tryd.prog 81 #[.pointer (some ⟨g, 0, none⟩), .slice (some ⟨h, 0, none⟩) l.length c, .int .i64 n] w fun e w' => Spoilt Bs B g w0 a len cap e w' := by
  obtain ⟨i0, hi0, hz0, hz1, hz2⟩ := info_parts Tryd.infoR
  have A0 := Lib.hid hA
  have HR := Lib.hid hR
  have hw0 := hA.1.size
  clear hA hR
  go_enter Tryd.func81, Tryd.ntmps81
  go_wp2_with fail
  refine (A0.out.next2 n hlen hg h1n (by omega)).mono ?_
  rintro e w1 ⟨⟨r, p1, q1, rfl⟩, on1, hA1⟩
  have A1 := Lib.hid hA1
  have HR1 := Lib.hid (HR.out.only on1 hgB)
  have l1 := on1.size
  clear on1 hA1 HR A0
  by_cases hr : r = 0
  · subst hr
    obtain ⟨wz, hwz⟩ : ∃ wz, wz = w1.alloc (.cells #[] 25) := ⟨_, rfl⟩
    have sz : wz.heap.size = w1.heap.size + 1 := by rw [hwz]; simp
    have bz : Below w1.heap.size w1 wz := by rw [hwz]; (repeat (first | (with_reducible exact Below.refl _ _) | (with_reducible refine Ext.drewN ?_ _) | (with_reducible refine Below.drew ?_) | (with_reducible refine Ext.alloc ?_ _) | (with_reducible refine Ext.setCell ?_ (by simp; try omega) _) | (with_reducible refine Ext.trans ?_ (by assumption)) | (with_reducible assumption) | exact Below.refl _ _))
    have OZ : Hid (wz.ownsRow w1.heap.size 25 4 (.slice (some ⟨w1.heap.size, 0, none⟩) 0 0) 0 []) := Lib.hid (by
      have hm := World.ownsRow_made (base := w1.heap.size) (size := 4) (e := 25) w1 #[] 0 (Nat.le_refl _) (by unfold maxLen; decide) rfl
      rw [hwz]
      exact hm)
    have HRz := Lib.hid (HR1.out.ext bz)
    have AZ := Lib.hid (A1.out.ext bz)
    go_upto_region 3 with fail
    refine wp_region_lit ?_
    go_wp2_with (at_builtin; rw [← hwz]; refine wpList_append_own _ rfl _ _ 38 rfl w1.heap.size 25 i0 (.agg #[.int .i64 0, .int .i64 0, .int .i64 0, .int .i64 0]) 4 32 Tryd.underlying38 hi0 hz0 hz1 hz2 rfl (by decide) _ _ _ rfl OZ.out ⟨h, 0, none⟩ l.length c (recCells l) rfl (recCells_len l) (rec_cells HRz.out) (rec_one l) (by unfold maxLen; omega) (by omega) (by omega) ?_; intro v' w4 hown4 hgrow hnil)
    have hnn : v' ≠ .slice none 0 0 := fun e => by have := (hnil.1 e).1; cases this
    have hrow : ∀ j, (Value.slice (some ⟨w1.heap.size, 0, none⟩) 0 0).ownBlock = some j → w1.heap.size ≤ j := fun j hj => (OZ.out.lt j hj).1
    have A4 := Lib.hid (AZ.out.grown hgrow (fun e' => by have := hrow g e'.symm; omega) (fun j hj => by have := hrow j hj; omega) hB)
    have l4 := hgrow.size
    obtain ⟨h4, c4, rfl, hc4, hown5⟩ := own_some (l := l) (by omega) hown4 hnn
    have O4 := Lib.hid hown5
    clear hown4 hown5 hgrow hnil hnn hrow OZ AZ HRz HR1 A1 hwz bz
    go_upto_region 4 with fail
    by_cases hl0 : l.length = 0
    · have hle : l = [] := List.eq_nil_of_length_eq_zero hl0
      subst hle
      have O4 : Hid (w4.ownsRow w1.heap.size 25 4 (.slice (some ⟨h4, 0, none⟩) 0 c4) 0 []) := O4
      clear hl0
      go_wp2_with fail
      rw [run_len_slice _ _ _ _ _ _ Tryd.underlying38]
      go_wp2_with (at_builtin; refine wpList_append_own _ rfl _ _ 38 rfl w1.heap.size 25 i0 (.agg #[.int .i64 0, .int .i64 0, .int .i64 0, .int .i64 0]) 4 32 Tryd.underlying38 hi0 hz0 hz1 hz2 rfl (by decide) _ _ _ rfl (O4.out.alloc _) ⟨w4.heap.size, 0, none⟩ 1 1 [.int .i64 0, .int .i64 0, .int .i64 0, .int .i64 0] rfl rfl (World.news_of_block (cs := #[.int .i64 0, .int .i64 0, .int .i64 0, .int .i64 0]) (t := 25) (fr := (0, 0)) (heap_alloc_new w4 _)) (by simp [Value.oneCell']) (by unfold maxLen; omega) (by omega) (by simp; omega) ?_; intro v' w9 hown9 hgrow9 hnil9)
      have hrow9 : ∀ j, (Value.slice (some ⟨h4, 0, none⟩) 0 c4).ownBlock = some j → w1.heap.size ≤ j := fun j hj => (O4.out.lt j hj).1
      have A9 := Lib.hid ((A4.out.ext ((Below.refl _ _).alloc (Nat.le_refl _) (.cells #[.int .i64 0, .int .i64 0, .int .i64 0, .int .i64 0] 25))).grown hgrow9 (fun e' => by have := hrow9 g e'.symm; omega) (fun j hj => by have := hrow9 j hj; omega) hB)
      obtain ⟨h9, c9, rfl, hown10⟩ := rec_next (l := []) (r := R4.mk 0 0 0 0) rfl hown9
      have HI := Lib.hid (rec_own hown10)
      clear hown9 hown10 hgrow9 hnil9 hrow9
      go_wp2_with fail
      go_ret
      exact ⟨h9, c9, [R4.mk 0 0 0 0], rfl, by simp, HI.out.lower (by omega), A9.out⟩
    · have hl0b : ((l.length : Int) == 0) = false := by rw [beq_eq_false_iff_ne]; omega
      go_wp2_with fail
      rw [run_len_slice _ _ _ _ _ _ Tryd.underlying38]
      go_wp2_with fail
      refine (A4.out.len l.length hlen hg (by omega) (by omega)).mono ?_
      rintro e w5 ⟨⟨i, hi, rfl⟩, on5, hA5⟩
      have O5 := Lib.hid (own_only O4.out on5 (by omega))
      have A5 := Lib.hid hA5
      have l5 := on5.size
      clear on5 hA5 A4 O4
      go_wp2_with fail
      refine (A5.out.next2 3 hlen hg (by omega) (by omega)).mono ?_
      rintro e w6 ⟨⟨r6, p6, q6, rfl⟩, on6, hA6⟩
      have O6 := Lib.hid (own_only O5.out on6 (by omega))
      have A6 := Lib.hid hA6
      have l6 := on6.size
      clear on6 hA6 A5 O5
      have qi : (i : Int) < (l.length : Int) := by omega
      have qi0 : (0 : Int) ≤ (i : Int) := by omega
      obtain ⟨hI6, hfz⟩ := RecIs.ofOwn O6.out
      obtain ⟨c0, c1, c2, c3⟩ := hI6.2.2 i _ (getD_get hi)
      have HI6 := Lib.hid hI6
      have HFZ := Lib.hid hfz
      have h46 : w1.heap.size ≤ h4 := hI6.1
      have h46' := hI6.2.1
      clear hI6 hfz
      obtain ⟨x, hx⟩ : ∃ x, x = l.getD i default := ⟨_, rfl⟩
      rw [← hx] at c0 c1 c2 c3
      have HX := Lib.hid hx
      clear hx
      have h3 : r6 = 0 ∨ r6 = 1 ∨ r6 = 2 := by omega
      rcases h3 with rfl | rfl | rfl
      · go_wp2_with fail
        refine (spoil1_any B g x.a x.b x.c x.d a len cap w0 _ hlen hg hB A6.out).mono ?_
        rintro e w7 ⟨⟨p', q', r', s', rfl⟩, on7, hA7⟩
        have HI7 := Lib.hid (HI6.out.only on7 (by omega))
        have A7 := Lib.hid hA7
        have f0 := on7.frz (HFZ.out (i * 4)) h46' (by omega)
        have f1 := on7.frz (HFZ.out (i * 4 + 1)) h46' (by omega)
        have f2 := on7.frz (HFZ.out (i * 4 + 2)) h46' (by omega)
        have f3 := on7.frz (HFZ.out (i * 4 + 3)) h46' (by omega)
        have d0 := on7.cell c0 (by omega)
        have d1 := on7.cell c1 (by omega)
        have d2 := on7.cell c2 (by omega)
        have d3 := on7.cell c3 (by omega)
        clear on7 hA7 c0 c1 c2 c3
        go_wp2_with fail
        go_ret
        exact ⟨h4, c4, l.set i ⟨p', q', r', s'⟩, by simp, by simp; omega, (HI7.out.set4 hi p' q' r' s').lower (by omega), (((A7.out.setNew (by omega) (by omega) hB _).setNew (by omega) (by omega) hB _).setNew (by omega) (by omega) hB _).setNew (by omega) (by omega) hB _⟩
      · go_wp2_with (at_builtin; refine wpList_append_own _ rfl _ _ 38 rfl w1.heap.size 25 i0 (.agg #[.int .i64 0, .int .i64 0, .int .i64 0, .int .i64 0]) 4 32 Tryd.underlying38 hi0 hz0 hz1 hz2 rfl (by decide) _ _ _ rfl (O6.out.alloc _) ⟨w6.heap.size, 0, none⟩ 1 1 [.int .i64 x.a, .int .i64 x.b, .int .i64 x.c, .int .i64 x.d] rfl rfl (World.news_of_block (cs := #[.int .i64 x.a, .int .i64 x.b, .int .i64 x.c, .int .i64 x.d]) (t := 25) (fr := (0, 0)) (heap_alloc_new w6 _)) (by simp [Value.oneCell']) (by unfold maxLen; omega) (by omega) (by simp; omega) ?_; intro v' w9 hown9 hgrow9 hnil9)
        have hrow9 : ∀ j, (Value.slice (some ⟨h4, 0, none⟩) l.length c4).ownBlock = some j → w1.heap.size ≤ j := fun j hj => (O6.out.lt j hj).1
        have A9 := Lib.hid ((A6.out.ext ((Below.refl _ _).alloc (Nat.le_refl _) (.cells #[.int .i64 x.a, .int .i64 x.b, .int .i64 x.c, .int .i64 x.d] 25))).grown hgrow9 (fun e' => by have := hrow9 g e'.symm; omega) (fun j hj => by have := hrow9 j hj; omega) hB)
        obtain ⟨h9, c9, rfl, hown10⟩ := rec_next (l := l) (r := x) rfl hown9
        have HI := Lib.hid (rec_own hown10)
        clear hown9 hown10 hgrow9 hnil9 hrow9
        go_wp2_with fail
        go_ret
        exact ⟨h9, c9, l ++ [x], rfl, by simp; omega, HI.out.lower (by omega), A9.out⟩
      · have f2 := HFZ.out (i * 4 + 2)
        go_wp2_with fail
        trace_state
        go_ret
        exact ⟨h4, c4, l.set i { x with c := wrap64 (x.c + 1) }, by simp, by simp; omega, (by have := HI6.out.set2 hi (wrap64 (x.c + 1)); rw [← HX.out] at this; exact this.lower (by omega)), A6.out.setNew (by omega) (by omega) hB _⟩
  · have hrb : (r == 0) = false := by simp [hr]
    go_wp2_with fail
    go_ret
    exact ⟨h, c, l, rfl, by omega, HR1.out, A1.out⟩
end Go.Proofs.YtdcddneanbplpaaDoor

/- Two drawn lists of rectangles. Condition: the code's bytes lie in memory. -/
namespace Go.Proofs.YtdcddneanbplpaaDoor
open Go.RowKit
set_option linter.unusedVariables false
set_option linter.unusedSimpArgs false

/-- A drawn list. -/
def DrawnOne (B : Nat) (w : World) (v : Value) (l : List R4) : Prop := ∃ h c : Nat, v = .slice (some ⟨h, 0, none⟩) l.length c ∧ l.length ≤ 3281 ∧ RecIs B w h l
def DrawnTwo (w : World) (e : Ending) (w' : World) : Prop := ∃ (u v : Value) (l m : List R4), e = .returned (.tuple #[u, v]) ∧ DrawnOne w.heap.size w' u l ∧ DrawnOne w.heap.size w' v m ∧ Below w.heap.size w w'
theorem SrcAt.rebase {B g : Nat} {w0 w : World} {a : Option Addr} {len cap : Nat} (h : SrcAt B g w0 w a len cap) : SrcAt B g w w a len cap := ⟨Only.refl _ _, h.2.1, h.2.2.1, h.2.2.2⟩


set_option maxHeartbeats 4000000 in
theorem drawIntersection_any (a : Option Addr) (len cap : Nat) (w : World) (hlen : len ≤ 8192) (hC : CodeIs w.heap.size w a len) :
    Calls Tryd.prog 54 #[.slice a len cap] w (DrawnTwo w) := by
  go_enter Tryd.func54, Tryd.ntmps54
  go_wp2_with fail
  refine (l01From_any w.heap.size a len cap _ hlen (Nat.le_refl _) hC).mono ?_
  rintro e w1 ⟨g, hg0, hg1, rfl, bw1, hS1⟩
  have A1 := Lib.hid (show SrcAt w.heap.size g w1 w1 a len cap from ⟨Only.refl _ _, hS1, hC.below bw1, bw1.size⟩)
  have B1 := Lib.hid bw1
  have l1 := bw1.size
  clear hS1 bw1 hC
  go_wp2_with fail
  refine (drawRegion_any w.heap.size g a len cap w1 w1 hlen l1 hg0 A1.out).mono ?_
  rintro e w2 ⟨h2, c2, f2, rfl, hI2, hA2⟩
  have I2 := Lib.hid hI2
  have A2 := Lib.hid hA2.rebase
  have O2 := Lib.hid hA2.1
  have l2 := hA2.1.size
  have n2 := canonL_len f2
  clear hI2 hA2 A1
  go_wp2_with fail
  refine (spoil_any w1.heap.size w.heap.size g h2 c2 (canonL f2) 14 a len cap w2 w2 hlen hg0 (by omega) A2.out hg1 l2 n2 I2.out (by omega) (by omega)).mono ?_
  rintro e w3 ⟨h3, c3, l3, rfl, n3, hI3, hA3⟩
  have I3 := Lib.hid hI3
  have A3 := Lib.hid hA3.rebase
  have O3 := Lib.hid (O2.out.trans hA3.1)
  have ls3 := hA3.1.size
  clear hI3 hA3 A2 I2 O2 n2
  go_wp2_with fail
  refine (drawRegion_any w.heap.size g a len cap w3 w3 hlen (by omega) hg0 A3.out).mono ?_
  rintro e w4 ⟨h4, c4, f4, rfl, hI4, hA4⟩
  have I4 := Lib.hid (hI4.lower (show w1.heap.size ≤ w3.heap.size by omega))
  have A4 := Lib.hid hA4.rebase
  have I34 := Lib.hid (I3.out.only hA4.1 hg1)
  have O4 := Lib.hid (O3.out.trans hA4.1)
  have l4 := hA4.1.size
  have n4 := canonL_len f4
  clear hI4 hA4 A3 I3 O3
  go_wp2_with fail
  refine (spoil_any w1.heap.size w.heap.size g h4 c4 (canonL f4) 14 a len cap w4 w4 hlen hg0 (by omega) A4.out hg1 (by omega) n4 I4.out (by omega) (by omega)).mono ?_
  rintro e w5 ⟨h5, c5, l5, rfl, n5, hI5, hA5⟩
  have I5 := Lib.hid (hI5.lower l1)
  have I35 := Lib.hid ((I34.out.only hA5.1 hg1).lower l1)
  have O5 := Lib.hid (O4.out.trans hA5.1)
  clear hI5 hA5 A4 I4 I34 O4 n4
  go_wp2_with fail
  refine bodyPost_ret (v := .tuple #[.slice (some ⟨h3, 0, none⟩) l3.length c3, .slice (some ⟨h5, 0, none⟩) l5.length c5]) (by simp [results, Tryd.results54, go_sem]) rfl ⟨_, _, l3, l5, rfl, ⟨h3, c3, rfl, n3, I35.out⟩, ⟨h5, c5, rfl, n5, I5.out⟩, Only.below B1.out O5.out l1 hg0⟩

set_option maxHeartbeats 4000000 in
theorem drawUnion_any (a : Option Addr) (len cap : Nat) (w : World) (hlen : len ≤ 8192) (hC : CodeIs w.heap.size w a len) :
    Calls Tryd.prog 42 #[.slice a len cap] w (DrawnTwo w) := by
  go_enter Tryd.func42, Tryd.ntmps42
  go_wp2_with fail
  refine (l01From_any w.heap.size a len cap _ hlen (Nat.le_refl _) hC).mono ?_
  rintro e w1 ⟨g, hg0, hg1, rfl, bw1, hS1⟩
  have A1 := Lib.hid (show SrcAt w.heap.size g w1 w1 a len cap from ⟨Only.refl _ _, hS1, hC.below bw1, bw1.size⟩)
  have B1 := Lib.hid bw1
  have l1 := bw1.size
  clear hS1 bw1 hC
  go_wp2_with fail
  refine (drawRegion_any w.heap.size g a len cap w1 w1 hlen l1 hg0 A1.out).mono ?_
  rintro e w2 ⟨h2, c2, f2, rfl, hI2, hA2⟩
  have I2 := Lib.hid hI2
  have A2 := Lib.hid hA2.rebase
  have O2 := Lib.hid hA2.1
  have l2 := hA2.1.size
  have n2 := canonL_len f2
  clear hI2 hA2 A1
  go_wp2_with fail
  refine (spoil_any w1.heap.size w.heap.size g h2 c2 (canonL f2) 14 a len cap w2 w2 hlen hg0 (by omega) A2.out hg1 l2 n2 I2.out (by omega) (by omega)).mono ?_
  rintro e w3 ⟨h3, c3, l3, rfl, n3, hI3, hA3⟩
  have I3 := Lib.hid hI3
  have A3 := Lib.hid hA3.rebase
  have O3 := Lib.hid (O2.out.trans hA3.1)
  have ls3 := hA3.1.size
  clear hI3 hA3 A2 I2 O2 n2
  go_wp2_with fail
  refine (drawRegion_any w.heap.size g a len cap w3 w3 hlen (by omega) hg0 A3.out).mono ?_
  rintro e w4 ⟨h4, c4, f4, rfl, hI4, hA4⟩
  have I4 := Lib.hid (hI4.lower (show w1.heap.size ≤ w3.heap.size by omega))
  have A4 := Lib.hid hA4.rebase
  have I34 := Lib.hid (I3.out.only hA4.1 hg1)
  have O4 := Lib.hid (O3.out.trans hA4.1)
  have l4 := hA4.1.size
  have n4 := canonL_len f4
  clear hI4 hA4 A3 I3 O3
  go_wp2_with fail
  refine (spoil_any w1.heap.size w.heap.size g h4 c4 (canonL f4) 14 a len cap w4 w4 hlen hg0 (by omega) A4.out hg1 (by omega) n4 I4.out (by omega) (by omega)).mono ?_
  rintro e w5 ⟨h5, c5, l5, rfl, n5, hI5, hA5⟩
  have I5 := Lib.hid (hI5.lower l1)
  have I35 := Lib.hid ((I34.out.only hA5.1 hg1).lower l1)
  have O5 := Lib.hid (O4.out.trans hA5.1)
  clear hI5 hA5 A4 I4 I34 O4 n4
  go_wp2_with fail
  refine bodyPost_ret (v := .tuple #[.slice (some ⟨h3, 0, none⟩) l3.length c3, .slice (some ⟨h5, 0, none⟩) l5.length c5]) (by simp [results, Tryd.results42, go_sem]) rfl ⟨_, _, l3, l5, rfl, ⟨h3, c3, rfl, n3, I35.out⟩, ⟨h5, c5, rfl, n5, I5.out⟩, Only.below B1.out O5.out l1 hg0⟩
end Go.Proofs.YtdcddneanbplpaaDoor
