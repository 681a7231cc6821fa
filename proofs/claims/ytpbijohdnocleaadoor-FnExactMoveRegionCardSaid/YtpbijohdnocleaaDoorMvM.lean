/- Contracts of the model's turns and moves. Conditions: the orientation is in 0..7 and the coordinates are small. -/
import Derived.Test.YtpbijohdnocleaaDoorTrA
import Derived.Lib.LaidTab
import Derived.Lib.LaidU8
import Derived.LaidMore
import Derived.Lay
import Derived.Stop.Joined
import Derived.Deep.RegionHeld3
import Derived.Deep.DeepCutAuto
import Derived.Deep.DrawnRows
import Derived.ChangeKeysEq
import Derived.Lib.Hide
import Derived.Test.YtpbijohdnocleaaDoorReH
import Derived.Test.YtpbijohdnocleaaDoorRgN
import Derived.Test.YtpbijohdnocleaaDoorRiC
import Derived.Test.YtpbijohdnocleaaDoorRiY
import Derived.Test.YtpbijohdnocleaaDoorDebTab
namespace Go.Proofs.YtpbijohdnocleaaDoor
open Go.RowKit
set_option linter.unusedVariables false
set_option linter.unusedSimpArgs false

def tX (o x y : Int) : Int := if o = 0 then x else if o = 1 then -y else if o = 2 then -x else if o = 3 then y else if o = 4 then x else if o = 5 then y else if o = 6 then -x else -y
def tY (o x y : Int) : Int := if o = 0 then y else if o = 1 then x else if o = 2 then -y else if o = 3 then -x else if o = 4 then -y else if o = 5 then x else if o = 6 then y else -x


def rX (j : Nat) (x y : Int) : Int := match j with | 0 => x | 1 => -y | 2 => -x | _ => y
def rY (j : Nat) (x y : Int) : Int := match j with | 0 => y | 1 => x | 2 => -y | _ => -x

set_option maxHeartbeats 4000000 in
theorem turn_any (o x y : Int) (w : World) (h0 : 0 ≤ o) (h7 : o ≤ 7) (hx : -1000000 ≤ x) (hx' : x ≤ 1000000) (hy : -1000000 ≤ y) (hy' : y ≤ 1000000) :
    Calls Tryd.prog 134 #[.int .i64 o, .agg #[.int .i64 x, .int .i64 y]] w fun e w' => e = .returned (.agg #[.int .i64 (tX o x y), .int .i64 (tY o x y)]) ∧ Below w.heap.size w w' := by
  rcases (show o = 0 ∨ o = 1 ∨ o = 2 ∨ o = 3 ∨ o = 4 ∨ o = 5 ∨ o = 6 ∨ o = 7 by omega) with rfl | rfl | rfl | rfl | rfl | rfl | rfl | rfl
  all_goals
    go_enter Tryd.func134, Tryd.ntmps134
    go_wp2_with fail
    go_quiet (fail)
    go_wp2_with fail
    go_rounds 4
    refine bodyPost_ret (v := .agg #[.int .i64 (tX _ x y), .int .i64 (tY _ x y)]) (by simp [results, Tryd.results134, go_sem, tX, tY]) rfl ⟨rfl, ?_⟩
    repeat (first | exact Below.refl _ _ | refine Ext.drewN ?_ _ | refine Ext.alloc ?_ _ | refine Ext.setCell ?_ (by simp) _)
end Go.Proofs.YtpbijohdnocleaaDoor

/- Contracts of the model's moves of points and cells, of the conversions and comparisons of the laws. -/
namespace Go.Proofs.YtpbijohdnocleaaDoor
open Go.RowKit
set_option linter.unusedVariables false
set_option linter.unusedSimpArgs false

def onB (x y : Int) : Bool := inB x (-40) 40 && inB y (-40) 40
def ucB (x y : Int) : Bool := inB x (-40) 39 && inB y (-40) 39
theorem onB_t {x y : Int} (h : onB x y = true) : (-40 ≤ x ∧ x ≤ 40) ∧ (-40 ≤ y ∧ y ≤ 40) := by
  unfold onB at h; simp only [Bool.and_eq_true] at h; exact ⟨inB_t h.1, inB_t h.2⟩
theorem ucB_t {x y : Int} (h : ucB x y = true) : (-40 ≤ x ∧ x ≤ 39) ∧ (-40 ≤ y ∧ y ≤ 39) := by
  unfold ucB at h; simp only [Bool.and_eq_true] at h; exact ⟨inB_t h.1, inB_t h.2⟩

theorem t_bd (o x y B : Int) (hx : -B ≤ x) (hx' : x ≤ B) (hy : -B ≤ y) (hy' : y ≤ B) : (-B ≤ tX o x y ∧ tX o x y ≤ B) ∧ (-B ≤ tY o x y ∧ tY o x y ≤ B) := by
  unfold tX tY
  refine ⟨?_, ?_⟩ <;> (repeat' split) <;> omega

def eqPB (a b c d : Int) : Bool := a == c && b == d
def eqTB (a b c d e f : Int) : Bool := a == d && b == e && c == f
theorem isUnitCell_any (x y : Int) (w : World) : Calls Tryd.prog 109 #[.agg #[.int .i64 x, .int .i64 y]] w fun e w' => e = .returned (.bool (ucB x y)) ∧ Below w.heap.size w w' := by
  by_cases h1 : inB x (-40) 39 = true
  all_goals
    go_enter Tryd.func109, Tryd.ntmps109
    go_wp2_with (go_at_call 122; go_call inRange_any as e w' ⟨rfl, rfl⟩)
    go_ret
    exact ⟨ret_bool (by simp [ucB, h1]), by go_grown⟩

theorem l01Move_any (o x y a b : Int) (w : World) (h0 : 0 ≤ o) (h7 : o ≤ 7) (hx : -1000 ≤ x) (hx' : x ≤ 1000) (hy : -1000 ≤ y) (hy' : y ≤ 1000) (ha : -1000 ≤ a) (ha' : a ≤ 1000) (hb : -1000 ≤ b) (hb' : b ≤ 1000) :
    Calls Tryd.prog 130 #[.agg #[.int .i64 o, .int .i64 x, .int .i64 y], .agg #[.int .i64 a, .int .i64 b]] w fun e w' => e = .returned (.agg #[.int .i64 (tX o a b + x), .int .i64 (tY o a b + y)]) ∧ Below w.heap.size w w' := by
  obtain ⟨⟨t1, t2⟩, t3, t4⟩ := t_bd o a b 1000 ha ha' hb hb'
  go_enter Tryd.func130, Tryd.ntmps130
  go_wp2_with fail
  go_call (turn_any) as e w1 ⟨rfl, bw1⟩
  obtain ⟨sw1, zw1, cw1, fw1⟩ := bcell bw1
  try simp only [World.size_alloc, World.size_setCell, World.size_drew] at sw1
  try have lw1_w_0 : w.heap.size < w1.heap.size := by omega
  try have lw1_w_1 : w.heap.size + 1 < w1.heap.size := by omega
  try have lw1_w_2 : w.heap.size + 1 + 1 < w1.heap.size := by omega
  try have lw1_w_3 : w.heap.size + 1 + 1 + 1 < w1.heap.size := by omega
  try have lw1_w_4 : w.heap.size + 1 + 1 + 1 + 1 < w1.heap.size := by omega
  try have lw1_w_5 : w.heap.size + 1 + 1 + 1 + 1 + 1 < w1.heap.size := by omega
  try have lw1_w_6 : w.heap.size + 1 + 1 + 1 + 1 + 1 + 1 < w1.heap.size := by omega
  go_wp2_with fail
  refine bodyPost_ret (v := .agg #[.int .i64 (tX o a b + x), .int .i64 (tY o a b + y)]) (by simp [*, results, Tryd.results130, go_sem]) rfl ⟨rfl, ?_⟩
  (repeat (first | (with_reducible exact Below.refl _ _) | (with_reducible refine Ext.drewN ?_ _) | (with_reducible refine Below.drew ?_) | (with_reducible refine Ext.alloc ?_ _) | (with_reducible refine Ext.setCell ?_ (by simp; try omega) _) | (with_reducible refine Ext.trans ?_ (by assumption)) | (with_reducible assumption) | exact Below.refl _ _))

def mpB (o x y a b : Int) : Bool := vldB o x y && onB a b
def mpX (o x y a b : Int) : Int := if mpB o x y a b = true then tX o a b + x else 0
def mpY (o x y a b : Int) : Int := if mpB o x y a b = true then tY o a b + y else 0
/-- What MovePoint answers. -/
def mpV (o x y a b : Int) : Value := .tuple #[.agg #[.int .i64 (mpX o x y a b), .int .i64 (mpY o x y a b)], .bool (mpB o x y a b)]
theorem mpV_yes {o x y a b : Int} (h1 : vldB o x y = true) (h2 : onB a b = true) : mpV o x y a b = .tuple #[.agg #[.int .i64 (tX o a b + x), .int .i64 (tY o a b + y)], .bool true] := by
  simp [mpV, mpX, mpY, mpB, h1, h2]
theorem mpV_no {o x y a b : Int} (h : mpB o x y a b = false) : mpV o x y a b = .tuple #[.agg #[.int .i64 0, .int .i64 0], .bool false] := by
  simp [mpV, mpX, mpY, h]
end Go.Proofs.YtpbijohdnocleaaDoor

/- The table of orientations in memory, out of what the row lists: the 32 cells of the variable orientationMatrices. -/
namespace Go.Proofs.YtpbijohdnocleaaDoor
open Go.RowKit Go.Lib

def matL : List Int := [1, 0, 0, 1, 0, -1, 1, 0, -1, 0, 0, -1, 0, 1, -1, 0, 1, 0, 0, -1, 0, 1, 1, 0, -1, 0, 0, 1, 0, -1, -1, 0]
/-- The variable's cells hold the table. -/
def Mats (w : World) : Prop := ∀ i, i < 32 → w.cell? ⟨2, i, none⟩ = some (.int .i64 (matL.getD i 0))

theorem mats_of_reads {W : World} (h : VarReads Tryd.prog W "loop.example/g00890/impl.orientationMatrices" Rows.laid_loop_example_g00890_impl_orientationMatrices) : Mats W := by
  obtain ⟨g, t, cs, fuel, p, hg, hty, hvar, hd⟩ := h
  obtain rfl := Option.some.inj ((show Tryd.prog.globalNamed "loop.example/g00890/impl.orientationMatrices" = some 2 by kernel_rfl).symm.trans hg)
  obtain rfl := Option.some.inj ((show (Tryd.prog.globals[2]?).map (·.type) = some 140 by kernel_rfl).symm.trans hty)
  have c4 : Tryd.prog.cellsOf 139 = 4 := by kernel_rfl
  have c1 : Tryd.prog.cellsOf 2 = 1 := by kernel_rfl
  have key : ∀ i, i < 8 → ∀ j, j < 4 → W.cell? ⟨2, i * 4 + j, none⟩ = some (.int .i64 (matL.getD (i * 4 + j) 0)) := by
    intro i hi j hj
    obtain ⟨f', d, q, hds, hr⟩ := array_elem Tryd.underlying140 hd i hi
    rw [c4] at hr
    have hdd : d = tabData .i64 [matL.getD (i * 4) 0, matL.getD (i * 4 + 1) 0, matL.getD (i * 4 + 2) 0, matL.getD (i * 4 + 3) 0] := by
      rcases (show i = 0 ∨ i = 1 ∨ i = 2 ∨ i = 3 ∨ i = 4 ∨ i = 5 ∨ i = 6 ∨ i = 7 by omega) with rfl | rfl | rfl | rfl | rfl | rfl | rfl | rfl <;> exact (Option.some.inj hds).symm
    rw [hdd] at hr
    have hcs := cells_of_tab Tryd.underlying139 Tryd.underlying2 c1 c4 hr
    have h2 : cs.toList[i * 4 + j]? = some (.int .i64 (matL.getD (i * 4 + j) 0)) := by
      have h3 : ((cs.toList.drop (i * 4)).take 4)[j]? = cs.toList[i * 4 + j]? := by
        rw [List.getElem?_take_of_lt hj, List.getElem?_drop]
      rw [← h3, hcs]
      rcases (show j = 0 ∨ j = 1 ∨ j = 2 ∨ j = 3 by omega) with rfl | rfl | rfl | rfl <;> rfl
    rw [World.var?_cell hg hvar]
    simpa using h2
  intro i hi
  have := key (i / 4) (by omega) (i % 4) (by omega)
  rw [show i / 4 * 4 + i % 4 = i by omega] at this
  exact this

theorem mats_of_laid {W : World} {laid : List (String × DataW Unit)} (h : laidMetH Tryd.prog laid W) (hp : (laid.all fun x => x.2.handleName?.isNone) = true)
    (hm : ("loop.example/g00890/impl.orientationMatrices", Rows.laid_loop_example_g00890_impl_orientationMatrices) ∈ laid) : Mats W := by
  rw [MakeChecks.laidMetH_plain _ _ _ hp] at h
  exact mats_of_reads (laidMet.reads h hm)

theorem Mats.below {W W' : World} (h : Mats W) (hb : Below W.heap.size W W') (hz : 2 < W.heap.size) : Mats W' := fun i hi => (hb.cell (p := ⟨2, i, none⟩) hz).trans (h i hi)
theorem Mats.size {W : World} (h : Mats W) : 2 < W.heap.size := by
  have := h 0 (by omega)
  unfold World.cell? at this
  split at this
  · rename_i heq
    exact (Array.getElem?_eq_some_iff.1 heq).1
  · cases this
theorem Mats.ne {W : World} (h : Mats W) : ¬ W.heap = #[] := fun e => by have := h.size; rw [e] at this; simp at this
end Go.Proofs.YtpbijohdnocleaaDoor

/- Contracts of the program's matrices and orientations. Condition: the variable orientationMatrices holds its table. -/
namespace Go.Proofs.YtpbijohdnocleaaDoor
open Go.RowKit
set_option linter.unusedVariables false
set_option linter.unusedSimpArgs false
attribute [local go_sem ↓] Go.wp_at_zero Go.wp_at_succ


def mr (o : Int) (j : Nat) : Int := matL.getD (o.toNat * 4 + j) 0

theorem oct {o : Int} (h0 : 0 ≤ o) (h7 : o ≤ 7) : o = 0 ∨ o = 1 ∨ o = 2 ∨ o = 3 ∨ o = 4 ∨ o = 5 ∨ o = 6 ∨ o = 7 := by omega

set_option maxHeartbeats 4000000 in
theorem matImage_any (o x y : Int) (w : World) (h0 : 0 ≤ o) (h7 : o ≤ 7) (hx : -1000000 ≤ x) (hx' : x ≤ 1000000) (hy : -1000000 ≤ y) (hy' : y ≤ 1000000) :
    Calls Tryd.prog 135 #[.agg #[.int .i64 (mr o 0), .int .i64 (mr o 1), .int .i64 (mr o 2), .int .i64 (mr o 3)], .agg #[.int .i64 x, .int .i64 y]] w fun e w' => e = .returned (.agg #[.int .i64 (tX o x y), .int .i64 (tY o x y)]) ∧ Below w.heap.size w w' := by
  rcases oct h0 h7 with rfl | rfl | rfl | rfl | rfl | rfl | rfl | rfl
  all_goals
    simp only [mr, matL, tX, tY, Int.toNat_zero, Int.toNat_one, Int.reduceToNat, Nat.reduceMul, Nat.reduceAdd, List.getD_cons_succ, List.getD_cons_zero, Nat.zero_mul, Nat.one_mul, Nat.zero_add, Int.reduceEq, if_true, if_false, reduceIte]
    go_enter Tryd.func135, Tryd.ntmps135
    go_wp2_with fail
    refine bodyPost_ret (v := .agg #[.int .i64 _, .int .i64 _]) (by simp [*, results, Tryd.results135, go_sem]; exact ⟨rfl, rfl⟩) rfl ⟨?_, ?_⟩
    · refine ret_point ?_ ?_ <;> omega
    · (repeat (first | (with_reducible exact Below.refl _ _) | (with_reducible refine Ext.drewN ?_ _) | (with_reducible refine Below.drew ?_) | (with_reducible refine Ext.alloc ?_ _) | (with_reducible refine Ext.setCell ?_ (by simp; try omega) _) | (with_reducible refine Ext.trans ?_ (by assumption)) | (with_reducible assumption) | exact Below.refl _ _))

end Go.Proofs.YtpbijohdnocleaaDoor

/- The program's orientations: looking a matrix up, composing, inverting, images. Condition: the variable orientationMatrices holds its table. -/
namespace Go.Proofs.YtpbijohdnocleaaDoor
open Go.RowKit
set_option linter.unusedVariables false
set_option linter.unusedSimpArgs false
attribute [local go_sem ↓] Go.wp_at_zero Go.wp_at_succ

theorem mr_cell {w : World} (hM : Mats w) (k : Nat) (hk : k < 8) (j : Nat) (hj : j < 4) : w.cell? ⟨2, k * 4 + j, none⟩ = some (.int .i64 (mr k j)) := by
  have := hM (k * 4 + j) (by omega)
  simpa [mr] using this

theorem info_ex : ∃ i, Tryd.prog.info? 2 = some i := by
  have h : (Tryd.prog.info? 2).isSome = true := by kernel_rfl
  exact Option.isSome_iff_exists.1 h
theorem eqArr4 (a0 a1 a2 a3 b0 b1 b2 b3 : Int) (w : World) : (Op.equalIn 10000 139 (.agg #[.int .i64 a0, .int .i64 a1, .int .i64 a2, .int .i64 a3]) (.agg #[.int .i64 b0, .int .i64 b1, .int .i64 b2, .int .i64 b3])).run Tryd.prog w = .ok (a0 == b0 && (a1 == b1 && (a2 == b2 && a3 == b3))) w := by
  obtain ⟨i, hi⟩ := info_ex
  have c1 : Tryd.prog.cellsOf 2 = 1 := by kernel_rfl
  rw [run_equalIn_array w 9999 _ _ Tryd.underlying139 hi, c1]
  have r4 : List.range 4 = [0, 1, 2, 3] := rfl
  rw [r4]
  have hq : ∀ (a b : Int) (w : World), (Op.equalIn 9999 2 (.int .i64 a) (.int .i64 b)).run Tryd.prog w = .ok (a == b) w := fun a b w => run_equalIn_int w 9998 _ _ .i64 a b Tryd.underlying2
  have hp : ∀ (x0 x1 x2 x3 : Int) (w : World), (part 2 #[.int .i64 x0, .int .i64 x1, .int .i64 x2, .int .i64 x3] (0 * 1)).run Tryd.prog w = .ok (.int .i64 x0) w ∧ (part 2 #[.int .i64 x0, .int .i64 x1, .int .i64 x2, .int .i64 x3] (1 * 1)).run Tryd.prog w = .ok (.int .i64 x1) w ∧ (part 2 #[.int .i64 x0, .int .i64 x1, .int .i64 x2, .int .i64 x3] (2 * 1)).run Tryd.prog w = .ok (.int .i64 x2) w ∧ (part 2 #[.int .i64 x0, .int .i64 x1, .int .i64 x2, .int .i64 x3] (3 * 1)).run Tryd.prog w = .ok (.int .i64 x3) w :=
    fun _ _ _ _ _ => ⟨by kernel_rfl, by kernel_rfl, by kernel_rfl, by kernel_rfl⟩
  simp only [Op.eqItems, Sem.run_bind, (hp _ _ _ _ _).1, (hp _ _ _ _ _).2.1, (hp _ _ _ _ _).2.2.1, (hp _ _ _ _ _).2.2.2, Result.andThen_ok, hq, Sem.run_ite, Sem.run_pure]
  cases h0 : a0 == b0 <;> cases h1 : a1 == b1 <;> cases h2 : a2 == b2 <;> cases h3 : a3 == b3 <;> simp

theorem mr_eq : ∀ k o : Nat, k < 8 → o < 8 → (mr k 0 == mr o 0 && (mr k 1 == mr o 1 && (mr k 2 == mr o 2 && mr k 3 == mr o 3))) = decide (k = o) := by
  have h : ∀ k o : Fin 8, (mr k 0 == mr o 0 && (mr k 1 == mr o 1 && (mr k 2 == mr o 2 && mr k 3 == mr o 3))) = decide (k.1 = o.1) := by decide
  intro k o hk ho
  exact h ⟨k, hk⟩ ⟨o, ho⟩
end Go.Proofs.YtpbijohdnocleaaDoor

/- The program's orientations: composing, inverting, images. Condition: the variable orientationMatrices holds its table. -/
namespace Go.Proofs.YtpbijohdnocleaaDoor
open Go.RowKit
set_option linter.unusedVariables false
set_option linter.unusedSimpArgs false
attribute [local go_sem ↓] Go.wp_at_zero Go.wp_at_succ

/-- Orientation a first, then b. -/
def cmpO (a b : Nat) : Nat := if b < 4 then (if a < 4 then (a + b) % 4 else 4 + (a - 4 + b) % 4) else (if a < 4 then 4 + (b - 4 + (4 - a)) % 4 else (b - 4 + (8 - a)) % 4)
def invO (a : Nat) : Nat := if a < 4 then (4 - a) % 4 else a
theorem cmpO_lt : ∀ a b : Nat, a < 8 → b < 8 → cmpO a b < 8 := by
  intro a b ha hb; unfold cmpO; (repeat' split) <;> omega
theorem invO_lt : ∀ a : Nat, a < 8 → invO a < 8 := by
  intro a ha; unfold invO; split <;> omega
theorem mr_cmp : ∀ a b : Nat, a < 8 → b < 8 → tX b (mr a 0) (mr a 2) = mr (cmpO a b) 0 ∧ tX b (mr a 1) (mr a 3) = mr (cmpO a b) 1 ∧ tY b (mr a 0) (mr a 2) = mr (cmpO a b) 2 ∧ tY b (mr a 1) (mr a 3) = mr (cmpO a b) 3 := by
  have h : ∀ a b : Fin 8, tX b (mr a 0) (mr a 2) = mr (cmpO a b) 0 ∧ tX b (mr a 1) (mr a 3) = mr (cmpO a b) 1 ∧ tY b (mr a 0) (mr a 2) = mr (cmpO a b) 2 ∧ tY b (mr a 1) (mr a 3) = mr (cmpO a b) 3 := by decide
  intro a b ha hb
  exact h ⟨a, ha⟩ ⟨b, hb⟩
theorem mr_inv : ∀ a : Nat, a < 8 → mr a 0 = mr (invO a) 0 ∧ mr a 2 = mr (invO a) 1 ∧ mr a 1 = mr (invO a) 2 ∧ mr a 3 = mr (invO a) 3 := by
  have h : ∀ a : Fin 8, mr a 0 = mr (invO a) 0 ∧ mr a 2 = mr (invO a) 1 ∧ mr a 1 = mr (invO a) 2 ∧ mr a 3 = mr (invO a) 3 := by decide
  intro a ha
  exact h ⟨a, ha⟩
theorem mr_bd : ∀ a : Nat, a < 8 → (-1000 ≤ mr a 0 ∧ mr a 0 ≤ 1000) ∧ (-1000 ≤ mr a 1 ∧ mr a 1 ≤ 1000) ∧ (-1000 ≤ mr a 2 ∧ mr a 2 ≤ 1000) ∧ (-1000 ≤ mr a 3 ∧ mr a 3 ≤ 1000) := by
  have h : ∀ a : Fin 8, (-1000 ≤ mr a 0 ∧ mr a 0 ≤ 1000) ∧ (-1000 ≤ mr a 1 ∧ mr a 1 ≤ 1000) ∧ (-1000 ≤ mr a 2 ∧ mr a 2 ≤ 1000) ∧ (-1000 ≤ mr a 3 ∧ mr a 3 ≤ 1000) := by decide
  intro a ha
  exact h ⟨a, ha⟩

end Go.Proofs.YtpbijohdnocleaaDoor

/- The program's orientations and transforms: then, images of points. Condition: the variable orientationMatrices holds its table. -/
namespace Go.Proofs.YtpbijohdnocleaaDoor
open Go.RowKit
set_option linter.unusedVariables false
set_option linter.unusedSimpArgs false
attribute [local go_sem ↓] Go.wp_at_zero Go.wp_at_succ

set_option maxHeartbeats 4000000 in
theorem oImage_any (o : Nat) (x y : Int) (w : World) (ho : o < 8) (hM : Mats w) (hx : -1000000 ≤ x) (hx' : x ≤ 1000000) (hy : -1000000 ≤ y) (hy' : y ≤ 1000000) :
    Calls Tryd.prog 131 #[.int .i64 o, .agg #[.int .i64 x, .int .i64 y]] w fun e w' => e = .returned (.agg #[.int .i64 (tX o x y), .int .i64 (tY o x y)]) ∧ Below w.heap.size w w' := by
  have g0 : w.cell? ⟨2, o * 4, none⟩ = some (.int .i64 (mr o 0)) := mr_cell hM o ho 0 (by omega)
  have g1 := mr_cell hM o ho 1 (by omega)
  have g2 := mr_cell hM o ho 2 (by omega)
  have g3 := mr_cell hM o ho 3 (by omega)
  have b1 : (0 : Int) ≤ (o : Int) := by omega
  have b2 : (o : Int) < 8 := by omega
  have hms := hM.size
  have hmz := hM.ne
  go_enter Tryd.func131, Tryd.ntmps131
  go_wp2_with fail
  go_region_held3 (fun w' => w'.cell? ⟨2, o * 4, none⟩ = some (.int .i64 (mr o 0)) ∧ w'.cell? ⟨2, o * 4 + 1, none⟩ = some (.int .i64 (mr o 1)) ∧ w'.cell? ⟨2, o * 4 + 2, none⟩ = some (.int .i64 (mr o 2)) ∧ w'.cell? ⟨2, o * 4 + 3, none⟩ = some (.int .i64 (mr o 3)) ∧ w'.cell? ⟨w.heap.size, 0, none⟩ = some (.int .i64 x) ∧ w'.cell? ⟨w.heap.size, 1, none⟩ = some (.int .i64 y))
    (first | ((try dsimp only); go_split_ands; (repeat' (with_reducible refine And.intro ?_ ?_)) <;> first | ((repeat (with_reducible refine keepS ?_ (by simp; try omega) _)); (first | (with_reducible assumption) | (with_reducible exact keepC (by assumption) (by assumption)) | (with_reducible exact keepA (by assumption) _) | (with_reducible exact keepR (by assumption) (by omega) _))) | ((try simp only [World.size_alloc, World.size_setCell, World.size_drew]); omega) | (refine Mats.below hM ?_ hM.size; (repeat (first | (with_reducible exact Below.refl _ _) | (with_reducible refine Ext.drewN ?_ _) | (with_reducible refine Below.drew ?_) | (with_reducible refine Ext.alloc ?_ _) | (with_reducible refine Ext.setCell ?_ (by simp; try omega) _) | (with_reducible refine Ext.trans ?_ (by assumption)) | (with_reducible assumption) | exact Below.refl _ _)); done) | ((repeat (first | (with_reducible exact Below.refl _ _) | (with_reducible refine Ext.drewN ?_ _) | (with_reducible refine Below.drew ?_) | (with_reducible refine Ext.alloc ?_ _) | (with_reducible refine Ext.setCell ?_ (by simp; try omega) _) | (with_reducible refine Ext.trans ?_ (by assumption)) | (with_reducible assumption) | exact Below.refl _ _)); done) | (go_keep; done)))
    (first | (go_at_call 135; refine (matImage_any o x y _ b1 (by omega) hx hx' hy hy').mono ?_; rintro e w1 ⟨rfl, bw1⟩; obtain ⟨sw1, zw1, cw1, fw1⟩ := bcell bw1))
  go_wp2_with fail
  refine bodyPost_ret (v := .agg #[.int .i64 (tX o x y), .int .i64 (tY o x y)]) (by simp [*, results, Tryd.results131, go_sem]) rfl ⟨rfl, ?_⟩
  (repeat (first | (with_reducible exact Below.refl _ _) | (with_reducible refine Ext.drewN ?_ _) | (with_reducible refine Below.drew ?_) | (with_reducible refine Ext.alloc ?_ _) | (with_reducible refine Ext.setCell ?_ (by simp; try omega) _) | (with_reducible refine Ext.trans ?_ (by assumption)) | (with_reducible assumption) | exact Below.refl _ _))

end Go.Proofs.YtpbijohdnocleaaDoor

/- The program's image of a point under a transform, and MovePoint. Condition: the variable orientationMatrices holds its table. -/
namespace Go.Proofs.YtpbijohdnocleaaDoor
open Go.RowKit
set_option linter.unusedVariables false
set_option linter.unusedSimpArgs false
attribute [local go_sem ↓] Go.wp_at_zero Go.wp_at_succ

theorem pairSet {w : World} {b : Nat} {u0 u1 v0 v1 : Value} (h0 : w.cell? ⟨b, 0, none⟩ = some u0) (h1 : w.cell? ⟨b, 1, none⟩ = some u1) :
    ((w.setCell ⟨b, 0, none⟩ v0).setCell ⟨b, 1, none⟩ v1).cell? ⟨b, 0, none⟩ = some v0 ∧ ((w.setCell ⟨b, 0, none⟩ v0).setCell ⟨b, 1, none⟩ v1).cell? ⟨b, 1, none⟩ = some v1 := by
  have e1 : (w.setCell ⟨b, 0, none⟩ v0).cell? ⟨b, 1, none⟩ = some u1 := by rw [World.cell?_setCell_other _ _ _ _ (by simp)]; exact h1
  refine ⟨?_, World.cell?_setCell_same _ _ _ e1⟩
  rw [World.cell?_setCell_other _ _ _ _ (by simp)]
  exact World.cell?_setCell_same _ _ _ h0

theorem set2_0 {w : World} {b : Nat} {u0 u1 v0 v1 : Value} (h0 : w.cell? ⟨b, 0, none⟩ = some u0) (h1 : w.cell? ⟨b, 1, none⟩ = some u1) :
    ((w.setCell ⟨b, 0, none⟩ v0).setCell ⟨b, 1, none⟩ v1).cell? ⟨b, 0, none⟩ = some v0 := (pairSet h0 h1).1
theorem set2_1 {w : World} {b : Nat} {u0 u1 v0 v1 : Value} (h0 : w.cell? ⟨b, 0, none⟩ = some u0) (h1 : w.cell? ⟨b, 1, none⟩ = some u1) :
    ((w.setCell ⟨b, 0, none⟩ v0).setCell ⟨b, 1, none⟩ v1).cell? ⟨b, 1, none⟩ = some v1 := (pairSet h0 h1).2
theorem set3_all {w : World} {b : Nat} {u0 u1 u2 v0 v1 v2 : Value} (h0 : w.cell? ⟨b, 0, none⟩ = some u0) (h1 : w.cell? ⟨b, 1, none⟩ = some u1) (h2 : w.cell? ⟨b, 2, none⟩ = some u2) :
    (((w.setCell ⟨b, 0, none⟩ v0).setCell ⟨b, 1, none⟩ v1).setCell ⟨b, 2, none⟩ v2).cell? ⟨b, 0, none⟩ = some v0 ∧ (((w.setCell ⟨b, 0, none⟩ v0).setCell ⟨b, 1, none⟩ v1).setCell ⟨b, 2, none⟩ v2).cell? ⟨b, 1, none⟩ = some v1 ∧ (((w.setCell ⟨b, 0, none⟩ v0).setCell ⟨b, 1, none⟩ v1).setCell ⟨b, 2, none⟩ v2).cell? ⟨b, 2, none⟩ = some v2 := by
  have e2 : ((w.setCell ⟨b, 0, none⟩ v0).setCell ⟨b, 1, none⟩ v1).cell? ⟨b, 2, none⟩ = some u2 := by
    rw [World.cell?_setCell_other _ _ _ _ (by simp), World.cell?_setCell_other _ _ _ _ (by simp)]; exact h2
  obtain ⟨p0, p1⟩ := pairSet (v0 := v0) (v1 := v1) h0 h1
  refine ⟨?_, ?_, World.cell?_setCell_same _ _ _ e2⟩
  · rw [World.cell?_setCell_other _ _ _ _ (by simp)]; exact p0
  · rw [World.cell?_setCell_other _ _ _ _ (by simp)]; exact p1
theorem set3_0 {w : World} {b : Nat} {u0 u1 u2 v0 v1 v2 : Value} (h0 : w.cell? ⟨b, 0, none⟩ = some u0) (h1 : w.cell? ⟨b, 1, none⟩ = some u1) (h2 : w.cell? ⟨b, 2, none⟩ = some u2) :
    (((w.setCell ⟨b, 0, none⟩ v0).setCell ⟨b, 1, none⟩ v1).setCell ⟨b, 2, none⟩ v2).cell? ⟨b, 0, none⟩ = some v0 := (set3_all h0 h1 h2).1
theorem set3_1 {w : World} {b : Nat} {u0 u1 u2 v0 v1 v2 : Value} (h0 : w.cell? ⟨b, 0, none⟩ = some u0) (h1 : w.cell? ⟨b, 1, none⟩ = some u1) (h2 : w.cell? ⟨b, 2, none⟩ = some u2) :
    (((w.setCell ⟨b, 0, none⟩ v0).setCell ⟨b, 1, none⟩ v1).setCell ⟨b, 2, none⟩ v2).cell? ⟨b, 1, none⟩ = some v1 := (set3_all h0 h1 h2).2.1
theorem set3_2 {w : World} {b : Nat} {u0 u1 u2 v0 v1 v2 : Value} (h0 : w.cell? ⟨b, 0, none⟩ = some u0) (h1 : w.cell? ⟨b, 1, none⟩ = some u1) (h2 : w.cell? ⟨b, 2, none⟩ = some u2) :
    (((w.setCell ⟨b, 0, none⟩ v0).setCell ⟨b, 1, none⟩ v1).setCell ⟨b, 2, none⟩ v2).cell? ⟨b, 2, none⟩ = some v2 := (set3_all h0 h1 h2).2.2

set_option maxHeartbeats 8000000 in
theorem tImage_any (o : Nat) (x y a b : Int) (w : World) (ho : o < 8) (hM : Mats w) (hx : -1000 ≤ x) (hx' : x ≤ 1000) (hy : -1000 ≤ y) (hy' : y ≤ 1000) (ha : -1000 ≤ a) (ha' : a ≤ 1000) (hb : -1000 ≤ b) (hb' : b ≤ 1000) :
    Calls Tryd.prog 123 #[.agg #[.int .i64 o, .int .i64 x, .int .i64 y], .agg #[.int .i64 a, .int .i64 b]] w fun e w' => e = .returned (.agg #[.int .i64 (tX o a b + x), .int .i64 (tY o a b + y)]) ∧ Below w.heap.size w w' := by
  obtain ⟨⟨t1, t2⟩, t3, t4⟩ := t_bd o a b 1000 ha ha' hb hb'
  have hms := hM.size
  have hmz := hM.ne
  go_enter Tryd.func123, Tryd.ntmps123
  go_upto_region 1 with fail
  go_cut [5] (fun s5 wx => ∃ g : Nat, s5 = .pointer (some ⟨g, 0, none⟩) ∧ w.heap.size + 1 + 1 < g ∧ g < wx.heap.size ∧ wx.cell? ⟨g, 0, none⟩ = some (.int .i64 (tX o a b)) ∧ wx.cell? ⟨g, 1, none⟩ = some (.int .i64 (tY o a b)) ∧ Below (((w.alloc (.cells #[.int .i64 o, .int .i64 x, .int .i64 y] 52)).alloc (.cells #[.int .i64 a, .int .i64 b] 112)).alloc (.cells #[.int .i64 0, .int .i64 0] 112)).heap.size (((w.alloc (.cells #[.int .i64 o, .int .i64 x, .int .i64 y] 52)).alloc (.cells #[.int .i64 a, .int .i64 b] 112)).alloc (.cells #[.int .i64 0, .int .i64 0] 112)) wx)
  case first =>
    go_region_held3 (fun w' => w.heap.size + 1 + 1 < w'.heap.size ∧ Below w.heap.size w w' ∧ w'.cell? ⟨w.heap.size, 0, none⟩ = some (.int .i64 o) ∧ w'.cell? ⟨w.heap.size, 1, none⟩ = some (.int .i64 x) ∧ w'.cell? ⟨w.heap.size, 2, none⟩ = some (.int .i64 y) ∧ w'.cell? ⟨w.heap.size + 1, 0, none⟩ = some (.int .i64 a) ∧ w'.cell? ⟨w.heap.size + 1, 1, none⟩ = some (.int .i64 b))
      (first | ((try dsimp only); go_split_ands; (repeat' (with_reducible refine And.intro ?_ ?_)) <;> first | ((repeat (with_reducible refine keepS ?_ (by simp; try omega) _)); (first | (with_reducible assumption) | (with_reducible exact keepC (by assumption) (by assumption)) | (with_reducible exact keepA (by assumption) _) | (with_reducible exact keepR (by assumption) (by omega) _))) | ((try simp only [World.size_alloc, World.size_setCell, World.size_drew]); omega) | (refine Mats.below hM ?_ hM.size; (repeat (first | (with_reducible exact Below.refl _ _) | (with_reducible refine Ext.drewN ?_ _) | (with_reducible refine Below.drew ?_) | (with_reducible refine Ext.alloc ?_ _) | (with_reducible refine Ext.setCell ?_ (by simp; try omega) _) | (with_reducible refine Ext.trans ?_ (by assumption)) | (with_reducible assumption) | exact Below.refl _ _)); done) | ((repeat (first | (with_reducible exact Below.refl _ _) | (with_reducible refine Ext.drewN ?_ _) | (with_reducible refine Below.drew ?_) | (with_reducible refine Ext.alloc ?_ _) | (with_reducible refine Ext.setCell ?_ (by simp; try omega) _) | (with_reducible refine Ext.trans ?_ (by assumption)) | (with_reducible assumption) | exact Below.refl _ _)); done) | (go_keep; done)))
      (first | (go_at_call 120; refine (orientation_any _ _ _ _).mono ?_; rintro e w1 ⟨rfl, bw1⟩; obtain ⟨sw1, zw1, cw1, fw1⟩ := bcell bw1; (try simp only [World.size_alloc, World.size_setCell, World.size_drew] at sw1)) | (go_at_call 131; refine (oImage_any o a b _ ho ?_ (by omega) (by omega) (by omega) (by omega)).mono ?_; (go_split_ands; refine Mats.below hM ?_ hM.size; assumption); rintro e w2 ⟨rfl, bw2⟩; obtain ⟨sw2, zw2, cw2, fw2⟩ := bcell bw2; (try simp only [World.size_alloc, World.size_setCell, World.size_drew] at sw2)))
    all_goals
      go_wp2_with fail
      go_meet
      refine ⟨_, rfl, ?_, ?_, ?_, ?_, ?_⟩
      · (try simp only [World.size_alloc, World.size_setCell, World.size_drew]); omega
      · (try simp only [World.size_alloc, World.size_setCell, World.size_drew]); omega
      · first | (simp [go_sem]; done) | (refine (pairSet (u0 := .int .i64 0) (u1 := .int .i64 0) ?_ ?_).1 <;> ((repeat (with_reducible refine keepC (by assumption) ?_)); simp [go_sem]))
      · first | (simp [go_sem]; done) | (refine (pairSet (u0 := .int .i64 0) (u1 := .int .i64 0) ?_ ?_).2 <;> ((repeat (with_reducible refine keepC (by assumption) ?_)); simp [go_sem]))
      · (repeat (first | (with_reducible exact Below.refl _ _) | (with_reducible refine Ext.drewN ?_ _) | (with_reducible refine Below.drew ?_) | (with_reducible refine Ext.alloc ?_ _) | (with_reducible refine Ext.setCell ?_ (by simp; try omega) _) | (with_reducible refine Ext.trans ?_ (by assumption)) | (with_reducible assumption) | exact Below.refl _ _))
  case rest =>
    obtain ⟨g, rfl, q1, q2, q3, q4, bw3⟩ := hcut
    obtain ⟨sw3, zw3, cw3, fw3⟩ := bcell bw3; (try simp only [World.size_alloc, World.size_setCell, World.size_drew] at sw3)
    go_wp2_with fail
    refine bodyPost_ret (v := .agg #[.int .i64 (tX o a b + x), .int .i64 (tY o a b + y)]) (by simp [*, results, Tryd.results123, go_sem]) rfl ⟨rfl, ?_⟩
    (repeat (first | (with_reducible exact Below.refl _ _) | (with_reducible refine Ext.drewN ?_ _) | (with_reducible refine Below.drew ?_) | (with_reducible refine Ext.alloc ?_ _) | (with_reducible refine Ext.setCell ?_ (by simp; try omega) _) | (with_reducible refine Ext.trans ?_ (by assumption)) | (with_reducible assumption) | exact Below.refl _ _))
end Go.Proofs.YtpbijohdnocleaaDoor

/- MoveRect: the model's and the program's. Condition: the variable orientationMatrices holds its table. -/
namespace Go.Proofs.YtpbijohdnocleaaDoor
open Go.RowKit
set_option linter.unusedVariables false
set_option linter.unusedSimpArgs false
attribute [local go_sem ↓] Go.wp_at_zero Go.wp_at_succ

/-- The image of a rectangle's corners. -/
def mvX (o x y a b : Int) : Int := tX o a b + x
def mvY (o x y a b : Int) : Int := tY o a b + y
def mr0 (o x y a b c d : Int) : Int := lo2 (mvX o x y a b) (mvX o x y c d)
def mr1 (o x y a b c d : Int) : Int := lo2 (mvY o x y a b) (mvY o x y c d)
def mr2 (o x y a b c d : Int) : Int := hi2 (mvX o x y a b) (mvX o x y c d)
def mr3 (o x y a b c d : Int) : Int := hi2 (mvY o x y a b) (mvY o x y c d)
def mvB (o x y a b c d : Int) : Bool := vldB o x y && (rvB a b c d && rvB (mr0 o x y a b c d) (mr1 o x y a b c d) (mr2 o x y a b c d) (mr3 o x y a b c d))
def mv0 (o x y a b c d : Int) : Int := if mvB o x y a b c d = true then mr0 o x y a b c d else 0
def mv1 (o x y a b c d : Int) : Int := if mvB o x y a b c d = true then mr1 o x y a b c d else 0
def mv2 (o x y a b c d : Int) : Int := if mvB o x y a b c d = true then mr2 o x y a b c d else 0
def mv3 (o x y a b c d : Int) : Int := if mvB o x y a b c d = true then mr3 o x y a b c d else 0
/-- What MoveRect answers. -/
def mvV (o x y a b c d : Int) : Value := .tuple #[.agg #[.int .i64 (mv0 o x y a b c d), .int .i64 (mv1 o x y a b c d), .int .i64 (mv2 o x y a b c d), .int .i64 (mv3 o x y a b c d)], .bool (mvB o x y a b c d)]
theorem mvV_no {o x y a b c d : Int} (h : mvB o x y a b c d = false) : mvV o x y a b c d = .tuple #[.agg #[.int .i64 0, .int .i64 0, .int .i64 0, .int .i64 0], .bool false] := by simp [mvV, mv0, mv1, mv2, mv3, h]
theorem mvV_yes {o x y a b c d : Int} (h : mvB o x y a b c d = true) : mvV o x y a b c d = .tuple #[.agg #[.int .i64 (mr0 o x y a b c d), .int .i64 (mr1 o x y a b c d), .int .i64 (mr2 o x y a b c d), .int .i64 (mr3 o x y a b c d)], .bool true] := by simp [mvV, mv0, mv1, mv2, mv3, h]

set_option maxHeartbeats 4000000 in
theorem l02Move_any (o x y a b c d : Int) (w : World) (h0 : 0 ≤ o) (h7 : o ≤ 7) (hx : -1000 ≤ x) (hx' : x ≤ 1000) (hy : -1000 ≤ y) (hy' : y ≤ 1000) (ha : -1000 ≤ a) (ha' : a ≤ 1000) (hb : -1000 ≤ b) (hb' : b ≤ 1000) (hc : -1000 ≤ c) (hc' : c ≤ 1000) (hd : -1000 ≤ d) (hd' : d ≤ 1000) :
    Calls Tryd.prog 119 #[.agg #[.int .i64 o, .int .i64 x, .int .i64 y], .agg #[.int .i64 a, .int .i64 b, .int .i64 c, .int .i64 d]] w fun e w' => e = .returned (.agg #[.int .i64 (mr0 o x y a b c d), .int .i64 (mr1 o x y a b c d), .int .i64 (mr2 o x y a b c d), .int .i64 (mr3 o x y a b c d)]) ∧ Below w.heap.size w w' := by
  unfold mr0 mr1 mr2 mr3 mvX mvY
  go_enter Tryd.func119, Tryd.ntmps119
  go_wp2_with fail
  go_call (l01Move_any o x y a b) as e w1 ⟨rfl, bw1⟩
  obtain ⟨sw1, zw1, cw1, fw1⟩ := bcell bw1
  try simp only [World.size_alloc, World.size_setCell, World.size_drew] at sw1
  try have lw1_w_0 : w.heap.size < w1.heap.size := by omega
  try have lw1_w_1 : w.heap.size + 1 < w1.heap.size := by omega
  try have lw1_w_2 : w.heap.size + 1 + 1 < w1.heap.size := by omega
  try have lw1_w_3 : w.heap.size + 1 + 1 + 1 < w1.heap.size := by omega
  try have lw1_w_4 : w.heap.size + 1 + 1 + 1 + 1 < w1.heap.size := by omega
  try have lw1_w_5 : w.heap.size + 1 + 1 + 1 + 1 + 1 < w1.heap.size := by omega
  try have lw1_w_6 : w.heap.size + 1 + 1 + 1 + 1 + 1 + 1 < w1.heap.size := by omega
  go_wp2_with fail
  go_call (l01Move_any o x y c d) as e w2 ⟨rfl, bw2⟩
  obtain ⟨sw2, zw2, cw2, fw2⟩ := bcell bw2
  try simp only [World.size_alloc, World.size_setCell, World.size_drew] at sw2
  try have lw2_w_0 : w.heap.size < w2.heap.size := by omega
  try have lw2_w_1 : w.heap.size + 1 < w2.heap.size := by omega
  try have lw2_w_2 : w.heap.size + 1 + 1 < w2.heap.size := by omega
  try have lw2_w_3 : w.heap.size + 1 + 1 + 1 < w2.heap.size := by omega
  try have lw2_w_4 : w.heap.size + 1 + 1 + 1 + 1 < w2.heap.size := by omega
  try have lw2_w_5 : w.heap.size + 1 + 1 + 1 + 1 + 1 < w2.heap.size := by omega
  try have lw2_w_6 : w.heap.size + 1 + 1 + 1 + 1 + 1 + 1 < w2.heap.size := by omega
  try have lw2_w1_0 : w1.heap.size < w2.heap.size := by omega
  try have lw2_w1_1 : w1.heap.size + 1 < w2.heap.size := by omega
  try have lw2_w1_2 : w1.heap.size + 1 + 1 < w2.heap.size := by omega
  try have lw2_w1_3 : w1.heap.size + 1 + 1 + 1 < w2.heap.size := by omega
  try have lw2_w1_4 : w1.heap.size + 1 + 1 + 1 + 1 < w2.heap.size := by omega
  try have lw2_w1_5 : w1.heap.size + 1 + 1 + 1 + 1 + 1 < w2.heap.size := by omega
  try have lw2_w1_6 : w1.heap.size + 1 + 1 + 1 + 1 + 1 + 1 < w2.heap.size := by omega
  go_wp2_with fail
  all_goals
    refine bodyPost_ret (v := .agg #[.int .i64 _, .int .i64 _, .int .i64 _, .int .i64 _]) (by simp [*, results, Tryd.results119, go_sem]; exact ⟨rfl, rfl, rfl, rfl⟩) rfl ⟨ret_rect ?_ ?_ ?_ ?_, by (repeat (first | (with_reducible exact Below.refl _ _) | (with_reducible refine Ext.drewN ?_ _) | (with_reducible refine Below.drew ?_) | (with_reducible refine Ext.alloc ?_ _) | (with_reducible refine Ext.setCell ?_ (by simp; try omega) _) | (with_reducible refine Ext.trans ?_ (by assumption)) | (with_reducible assumption) | exact Below.refl _ _))⟩
    · unfold lo2; split <;> omega
    · unfold lo2; split <;> omega
    · unfold hi2; split <;> omega
    · unfold hi2; split <;> omega

theorem small_im {o x y a b : Int} (hv : vldB o x y = true) (ha : -1000 ≤ a) (ha' : a ≤ 1000) (hb : -1000 ≤ b) (hb' : b ≤ 1000) : (-1000 ≤ x ∧ x ≤ 1000) ∧ (-1000 ≤ y ∧ y ≤ 1000) := by
  obtain ⟨h1, h2, h3⟩ := vldB_t hv
  omega

end Go.Proofs.YtpbijohdnocleaaDoor

/- MoveRect: the program's. Condition: the variable orientationMatrices holds its table. -/
namespace Go.Proofs.YtpbijohdnocleaaDoor
open Go.RowKit
set_option linter.unusedVariables false
set_option linter.unusedSimpArgs false
attribute [local go_sem ↓] Go.wp_at_zero Go.wp_at_succ

theorem lo2_min (p q : Int) : lo2 p q = min p q := by unfold lo2; split <;> omega
theorem hi2_max (p q : Int) : hi2 p q = max p q := by unfold hi2; split <;> omega
theorem tImage_is (n : Nat) (x y a b : Int) (w : World) (ho : n < 8) (hM : Mats w) (hx : -1000 ≤ x) (hx' : x ≤ 1000) (hy : -1000 ≤ y) (hy' : y ≤ 1000) (ha : -1000 ≤ a) (ha' : a ≤ 1000) (hb : -1000 ≤ b) (hb' : b ≤ 1000) :
    Calls Tryd.prog 123 #[.agg #[.int .i64 n, .int .i64 x, .int .i64 y], .agg #[.int .i64 a, .int .i64 b]] w fun e w' => e = .returned (.agg #[.int .i64 (mvX n x y a b), .int .i64 (mvY n x y a b)]) ∧ Below w.heap.size w w' := tImage_any n x y a b w ho hM hx hx' hy hy' ha ha' hb hb'

set_option maxHeartbeats 4000000 in
theorem implMoveRect_any (o x y a b c d : Int) (w : World) (hC : ChipW w) (hM : Mats w) : Calls Tryd.prog 93 #[.agg #[.int .i64 o, .int .i64 x, .int .i64 y], .agg #[.int .i64 a, .int .i64 b, .int .i64 c, .int .i64 d]] w fun e w' => e = .returned (mvV o x y a b c d) ∧ Below w.heap.size w w' := by
  have hms := hM.size
  have hmz := hM.ne
  cases h1 : vldB o x y with
  | false =>
    rw [mvV_no (by simp [mvB, h1])]
    go_enter Tryd.func93, Tryd.ntmps93
    go_wp2_with fail
    go_call (implValid_any) as e w1 ⟨rfl, bw1⟩
    obtain ⟨sw1, zw1, cw1, fw1⟩ := bcell bw1
    try simp only [World.size_alloc, World.size_setCell, World.size_drew] at sw1
    try have lw1_w_0 : w.heap.size < w1.heap.size := by omega
    try have lw1_w_1 : w.heap.size + 1 < w1.heap.size := by omega
    try have lw1_w_2 : w.heap.size + 1 + 1 < w1.heap.size := by omega
    try have lw1_w_3 : w.heap.size + 1 + 1 + 1 < w1.heap.size := by omega
    try have lw1_w_4 : w.heap.size + 1 + 1 + 1 + 1 < w1.heap.size := by omega
    try have lw1_w_5 : w.heap.size + 1 + 1 + 1 + 1 + 1 < w1.heap.size := by omega
    try have lw1_w_6 : w.heap.size + 1 + 1 + 1 + 1 + 1 + 1 < w1.heap.size := by omega
    rw [h1]
    go_wp2_with fail
    refine bodyPost_ret (v := .tuple #[.agg #[.int .i64 0, .int .i64 0, .int .i64 0, .int .i64 0], .bool false]) (by simp [*, results, Tryd.results93, go_sem]) rfl ⟨rfl, ?_⟩
    (repeat (first | (with_reducible exact Below.refl _ _) | (with_reducible refine Ext.drewN ?_ _) | (with_reducible refine Below.drew ?_) | (with_reducible refine Ext.alloc ?_ _) | (with_reducible refine Ext.setCell ?_ (by simp; try omega) _) | (with_reducible refine Ext.trans ?_ (by assumption)) | (with_reducible assumption) | exact Below.refl _ _))
  | true =>
    cases h2 : rvB a b c d with
    | false =>
      rw [mvV_no (by simp [mvB, h2])]
      go_enter Tryd.func93, Tryd.ntmps93
      go_wp2_with fail
      go_call (implValid_any) as e w1 ⟨rfl, bw1⟩
      obtain ⟨sw1, zw1, cw1, fw1⟩ := bcell bw1
      try simp only [World.size_alloc, World.size_setCell, World.size_drew] at sw1
      try have lw1_w_0 : w.heap.size < w1.heap.size := by omega
      try have lw1_w_1 : w.heap.size + 1 < w1.heap.size := by omega
      try have lw1_w_2 : w.heap.size + 1 + 1 < w1.heap.size := by omega
      try have lw1_w_3 : w.heap.size + 1 + 1 + 1 < w1.heap.size := by omega
      try have lw1_w_4 : w.heap.size + 1 + 1 + 1 + 1 < w1.heap.size := by omega
      try have lw1_w_5 : w.heap.size + 1 + 1 + 1 + 1 + 1 < w1.heap.size := by omega
      try have lw1_w_6 : w.heap.size + 1 + 1 + 1 + 1 + 1 + 1 < w1.heap.size := by omega
      rw [h1]
      go_wp2_with fail
      go_call (implValidRect_any _ _ _ _ _ (hC.ext (by (repeat (first | (with_reducible exact Below.refl _ _) | (with_reducible refine Ext.drewN ?_ _) | (with_reducible refine Below.drew ?_) | (with_reducible refine Ext.alloc ?_ _) | (with_reducible refine Ext.setCell ?_ (by simp; try omega) _) | (with_reducible refine Ext.trans ?_ (by assumption)) | (with_reducible assumption) | exact Below.refl _ _))))) as e w2 ⟨rfl, bw2⟩
      obtain ⟨sw2, zw2, cw2, fw2⟩ := bcell bw2
      try simp only [World.size_alloc, World.size_setCell, World.size_drew] at sw2
      try have lw2_w_0 : w.heap.size < w2.heap.size := by omega
      try have lw2_w_1 : w.heap.size + 1 < w2.heap.size := by omega
      try have lw2_w_2 : w.heap.size + 1 + 1 < w2.heap.size := by omega
      try have lw2_w_3 : w.heap.size + 1 + 1 + 1 < w2.heap.size := by omega
      try have lw2_w_4 : w.heap.size + 1 + 1 + 1 + 1 < w2.heap.size := by omega
      try have lw2_w_5 : w.heap.size + 1 + 1 + 1 + 1 + 1 < w2.heap.size := by omega
      try have lw2_w_6 : w.heap.size + 1 + 1 + 1 + 1 + 1 + 1 < w2.heap.size := by omega
      try have lw2_w1_0 : w1.heap.size < w2.heap.size := by omega
      try have lw2_w1_1 : w1.heap.size + 1 < w2.heap.size := by omega
      try have lw2_w1_2 : w1.heap.size + 1 + 1 < w2.heap.size := by omega
      try have lw2_w1_3 : w1.heap.size + 1 + 1 + 1 < w2.heap.size := by omega
      try have lw2_w1_4 : w1.heap.size + 1 + 1 + 1 + 1 < w2.heap.size := by omega
      try have lw2_w1_5 : w1.heap.size + 1 + 1 + 1 + 1 + 1 < w2.heap.size := by omega
      try have lw2_w1_6 : w1.heap.size + 1 + 1 + 1 + 1 + 1 + 1 < w2.heap.size := by omega
      rw [h2]
      go_wp2_with fail
      refine bodyPost_ret (v := .tuple #[.agg #[.int .i64 0, .int .i64 0, .int .i64 0, .int .i64 0], .bool false]) (by simp [*, results, Tryd.results93, go_sem]) rfl ⟨rfl, ?_⟩
      (repeat (first | (with_reducible exact Below.refl _ _) | (with_reducible refine Ext.drewN ?_ _) | (with_reducible refine Below.drew ?_) | (with_reducible refine Ext.alloc ?_ _) | (with_reducible refine Ext.setCell ?_ (by simp; try omega) _) | (with_reducible refine Ext.trans ?_ (by assumption)) | (with_reducible assumption) | exact Below.refl _ _))
    | true =>
      obtain ⟨⟨i1, i2⟩, ⟨i3, i4⟩, i5, i6⟩ := vldB_t h1
      obtain ⟨j1, j2, j3, j4, j5, j6⟩ := rvB_t h2
      obtain ⟨n, rfl⟩ : ∃ n : Nat, o = n := ⟨o.toNat, by omega⟩
      have hn8 : n < 8 := by omega
      have hlo : ∀ p q : Int, (if q < p then q else p) = lo2 p q := fun _ _ => rfl
      have hhi : ∀ p q : Int, (if p < q then q else p) = hi2 p q := fun _ _ => rfl
      cases h3 : rvB (mr0 n x y a b c d) (mr1 n x y a b c d) (mr2 n x y a b c d) (mr3 n x y a b c d) with
      | false =>
        rw [mvV_no (by simp [mvB, h3])]
        unfold mr0 mr1 mr2 mr3 at h3
        have h3' := h3
        simp only [lo2_min, hi2_max] at h3'
        go_enter Tryd.func93, Tryd.ntmps93
        go_wp2_with fail
        go_call (implValid_any) as e w1 ⟨rfl, bw1⟩
        obtain ⟨sw1, zw1, cw1, fw1⟩ := bcell bw1
        try simp only [World.size_alloc, World.size_setCell, World.size_drew] at sw1
        try have lw1_w_0 : w.heap.size < w1.heap.size := by omega
        try have lw1_w_1 : w.heap.size + 1 < w1.heap.size := by omega
        try have lw1_w_2 : w.heap.size + 1 + 1 < w1.heap.size := by omega
        try have lw1_w_3 : w.heap.size + 1 + 1 + 1 < w1.heap.size := by omega
        try have lw1_w_4 : w.heap.size + 1 + 1 + 1 + 1 < w1.heap.size := by omega
        try have lw1_w_5 : w.heap.size + 1 + 1 + 1 + 1 + 1 < w1.heap.size := by omega
        try have lw1_w_6 : w.heap.size + 1 + 1 + 1 + 1 + 1 + 1 < w1.heap.size := by omega
        rw [h1]
        go_wp2_with fail
        go_call (implValidRect_any _ _ _ _ _ (hC.ext (by (repeat (first | (with_reducible exact Below.refl _ _) | (with_reducible refine Ext.drewN ?_ _) | (with_reducible refine Below.drew ?_) | (with_reducible refine Ext.alloc ?_ _) | (with_reducible refine Ext.setCell ?_ (by simp; try omega) _) | (with_reducible refine Ext.trans ?_ (by assumption)) | (with_reducible assumption) | exact Below.refl _ _))))) as e w2 ⟨rfl, bw2⟩
        obtain ⟨sw2, zw2, cw2, fw2⟩ := bcell bw2
        try simp only [World.size_alloc, World.size_setCell, World.size_drew] at sw2
        try have lw2_w_0 : w.heap.size < w2.heap.size := by omega
        try have lw2_w_1 : w.heap.size + 1 < w2.heap.size := by omega
        try have lw2_w_2 : w.heap.size + 1 + 1 < w2.heap.size := by omega
        try have lw2_w_3 : w.heap.size + 1 + 1 + 1 < w2.heap.size := by omega
        try have lw2_w_4 : w.heap.size + 1 + 1 + 1 + 1 < w2.heap.size := by omega
        try have lw2_w_5 : w.heap.size + 1 + 1 + 1 + 1 + 1 < w2.heap.size := by omega
        try have lw2_w_6 : w.heap.size + 1 + 1 + 1 + 1 + 1 + 1 < w2.heap.size := by omega
        try have lw2_w1_0 : w1.heap.size < w2.heap.size := by omega
        try have lw2_w1_1 : w1.heap.size + 1 < w2.heap.size := by omega
        try have lw2_w1_2 : w1.heap.size + 1 + 1 < w2.heap.size := by omega
        try have lw2_w1_3 : w1.heap.size + 1 + 1 + 1 < w2.heap.size := by omega
        try have lw2_w1_4 : w1.heap.size + 1 + 1 + 1 + 1 < w2.heap.size := by omega
        try have lw2_w1_5 : w1.heap.size + 1 + 1 + 1 + 1 + 1 < w2.heap.size := by omega
        try have lw2_w1_6 : w1.heap.size + 1 + 1 + 1 + 1 + 1 + 1 < w2.heap.size := by omega
        rw [h2]
        go_wp2_with fail
        go_call (tImage_is n x y a b _ hn8 (hM.below (by (repeat (first | (with_reducible exact Below.refl _ _) | (with_reducible refine Ext.drewN ?_ _) | (with_reducible refine Below.drew ?_) | (with_reducible refine Ext.alloc ?_ _) | (with_reducible refine Ext.setCell ?_ (by simp; try omega) _) | (with_reducible refine Ext.trans ?_ (by assumption)) | (with_reducible assumption) | exact Below.refl _ _))) hms) (by omega) (by omega) (by omega) (by omega) (by omega) (by omega) (by omega) (by omega)) as e w3 ⟨rfl, bw3⟩
        obtain ⟨sw3, zw3, cw3, fw3⟩ := bcell bw3
        try simp only [World.size_alloc, World.size_setCell, World.size_drew] at sw3
        try have lw3_w_0 : w.heap.size < w3.heap.size := by omega
        try have lw3_w_1 : w.heap.size + 1 < w3.heap.size := by omega
        try have lw3_w_2 : w.heap.size + 1 + 1 < w3.heap.size := by omega
        try have lw3_w_3 : w.heap.size + 1 + 1 + 1 < w3.heap.size := by omega
        try have lw3_w_4 : w.heap.size + 1 + 1 + 1 + 1 < w3.heap.size := by omega
        try have lw3_w_5 : w.heap.size + 1 + 1 + 1 + 1 + 1 < w3.heap.size := by omega
        try have lw3_w_6 : w.heap.size + 1 + 1 + 1 + 1 + 1 + 1 < w3.heap.size := by omega
        try have lw3_w1_0 : w1.heap.size < w3.heap.size := by omega
        try have lw3_w1_1 : w1.heap.size + 1 < w3.heap.size := by omega
        try have lw3_w1_2 : w1.heap.size + 1 + 1 < w3.heap.size := by omega
        try have lw3_w1_3 : w1.heap.size + 1 + 1 + 1 < w3.heap.size := by omega
        try have lw3_w1_4 : w1.heap.size + 1 + 1 + 1 + 1 < w3.heap.size := by omega
        try have lw3_w1_5 : w1.heap.size + 1 + 1 + 1 + 1 + 1 < w3.heap.size := by omega
        try have lw3_w1_6 : w1.heap.size + 1 + 1 + 1 + 1 + 1 + 1 < w3.heap.size := by omega
        try have lw3_w2_0 : w2.heap.size < w3.heap.size := by omega
        try have lw3_w2_1 : w2.heap.size + 1 < w3.heap.size := by omega
        try have lw3_w2_2 : w2.heap.size + 1 + 1 < w3.heap.size := by omega
        try have lw3_w2_3 : w2.heap.size + 1 + 1 + 1 < w3.heap.size := by omega
        try have lw3_w2_4 : w2.heap.size + 1 + 1 + 1 + 1 < w3.heap.size := by omega
        try have lw3_w2_5 : w2.heap.size + 1 + 1 + 1 + 1 + 1 < w3.heap.size := by omega
        try have lw3_w2_6 : w2.heap.size + 1 + 1 + 1 + 1 + 1 + 1 < w3.heap.size := by omega
        go_wp2_with fail
        go_call (tImage_is n x y c d _ hn8 (hM.below (by (repeat (first | (with_reducible exact Below.refl _ _) | (with_reducible refine Ext.drewN ?_ _) | (with_reducible refine Below.drew ?_) | (with_reducible refine Ext.alloc ?_ _) | (with_reducible refine Ext.setCell ?_ (by simp; try omega) _) | (with_reducible refine Ext.trans ?_ (by assumption)) | (with_reducible assumption) | exact Below.refl _ _))) hms) (by omega) (by omega) (by omega) (by omega) (by omega) (by omega) (by omega) (by omega)) as e w4 ⟨rfl, bw4⟩
        obtain ⟨sw4, zw4, cw4, fw4⟩ := bcell bw4
        try simp only [World.size_alloc, World.size_setCell, World.size_drew] at sw4
        try have lw4_w_0 : w.heap.size < w4.heap.size := by omega
        try have lw4_w_1 : w.heap.size + 1 < w4.heap.size := by omega
        try have lw4_w_2 : w.heap.size + 1 + 1 < w4.heap.size := by omega
        try have lw4_w_3 : w.heap.size + 1 + 1 + 1 < w4.heap.size := by omega
        try have lw4_w_4 : w.heap.size + 1 + 1 + 1 + 1 < w4.heap.size := by omega
        try have lw4_w_5 : w.heap.size + 1 + 1 + 1 + 1 + 1 < w4.heap.size := by omega
        try have lw4_w_6 : w.heap.size + 1 + 1 + 1 + 1 + 1 + 1 < w4.heap.size := by omega
        try have lw4_w1_0 : w1.heap.size < w4.heap.size := by omega
        try have lw4_w1_1 : w1.heap.size + 1 < w4.heap.size := by omega
        try have lw4_w1_2 : w1.heap.size + 1 + 1 < w4.heap.size := by omega
        try have lw4_w1_3 : w1.heap.size + 1 + 1 + 1 < w4.heap.size := by omega
        try have lw4_w1_4 : w1.heap.size + 1 + 1 + 1 + 1 < w4.heap.size := by omega
        try have lw4_w1_5 : w1.heap.size + 1 + 1 + 1 + 1 + 1 < w4.heap.size := by omega
        try have lw4_w1_6 : w1.heap.size + 1 + 1 + 1 + 1 + 1 + 1 < w4.heap.size := by omega
        try have lw4_w2_0 : w2.heap.size < w4.heap.size := by omega
        try have lw4_w2_1 : w2.heap.size + 1 < w4.heap.size := by omega
        try have lw4_w2_2 : w2.heap.size + 1 + 1 < w4.heap.size := by omega
        try have lw4_w2_3 : w2.heap.size + 1 + 1 + 1 < w4.heap.size := by omega
        try have lw4_w2_4 : w2.heap.size + 1 + 1 + 1 + 1 < w4.heap.size := by omega
        try have lw4_w2_5 : w2.heap.size + 1 + 1 + 1 + 1 + 1 < w4.heap.size := by omega
        try have lw4_w2_6 : w2.heap.size + 1 + 1 + 1 + 1 + 1 + 1 < w4.heap.size := by omega
        try have lw4_w3_0 : w3.heap.size < w4.heap.size := by omega
        try have lw4_w3_1 : w3.heap.size + 1 < w4.heap.size := by omega
        try have lw4_w3_2 : w3.heap.size + 1 + 1 < w4.heap.size := by omega
        try have lw4_w3_3 : w3.heap.size + 1 + 1 + 1 < w4.heap.size := by omega
        try have lw4_w3_4 : w3.heap.size + 1 + 1 + 1 + 1 < w4.heap.size := by omega
        try have lw4_w3_5 : w3.heap.size + 1 + 1 + 1 + 1 + 1 < w4.heap.size := by omega
        try have lw4_w3_6 : w3.heap.size + 1 + 1 + 1 + 1 + 1 + 1 < w4.heap.size := by omega
        go_wp2_with fail
        go_call (implValidRect_any _ _ _ _ _ (hC.ext (by (repeat (first | (with_reducible exact Below.refl _ _) | (with_reducible refine Ext.drewN ?_ _) | (with_reducible refine Below.drew ?_) | (with_reducible refine Ext.alloc ?_ _) | (with_reducible refine Ext.setCell ?_ (by simp; try omega) _) | (with_reducible refine Ext.trans ?_ (by assumption)) | (with_reducible assumption) | exact Below.refl _ _))))) as e w5 ⟨rfl, bw5⟩
        obtain ⟨sw5, zw5, cw5, fw5⟩ := bcell bw5
        try simp only [World.size_alloc, World.size_setCell, World.size_drew] at sw5
        try have lw5_w_0 : w.heap.size < w5.heap.size := by omega
        try have lw5_w_1 : w.heap.size + 1 < w5.heap.size := by omega
        try have lw5_w_2 : w.heap.size + 1 + 1 < w5.heap.size := by omega
        try have lw5_w_3 : w.heap.size + 1 + 1 + 1 < w5.heap.size := by omega
        try have lw5_w_4 : w.heap.size + 1 + 1 + 1 + 1 < w5.heap.size := by omega
        try have lw5_w_5 : w.heap.size + 1 + 1 + 1 + 1 + 1 < w5.heap.size := by omega
        try have lw5_w_6 : w.heap.size + 1 + 1 + 1 + 1 + 1 + 1 < w5.heap.size := by omega
        try have lw5_w1_0 : w1.heap.size < w5.heap.size := by omega
        try have lw5_w1_1 : w1.heap.size + 1 < w5.heap.size := by omega
        try have lw5_w1_2 : w1.heap.size + 1 + 1 < w5.heap.size := by omega
        try have lw5_w1_3 : w1.heap.size + 1 + 1 + 1 < w5.heap.size := by omega
        try have lw5_w1_4 : w1.heap.size + 1 + 1 + 1 + 1 < w5.heap.size := by omega
        try have lw5_w1_5 : w1.heap.size + 1 + 1 + 1 + 1 + 1 < w5.heap.size := by omega
        try have lw5_w1_6 : w1.heap.size + 1 + 1 + 1 + 1 + 1 + 1 < w5.heap.size := by omega
        try have lw5_w2_0 : w2.heap.size < w5.heap.size := by omega
        try have lw5_w2_1 : w2.heap.size + 1 < w5.heap.size := by omega
        try have lw5_w2_2 : w2.heap.size + 1 + 1 < w5.heap.size := by omega
        try have lw5_w2_3 : w2.heap.size + 1 + 1 + 1 < w5.heap.size := by omega
        try have lw5_w2_4 : w2.heap.size + 1 + 1 + 1 + 1 < w5.heap.size := by omega
        try have lw5_w2_5 : w2.heap.size + 1 + 1 + 1 + 1 + 1 < w5.heap.size := by omega
        try have lw5_w2_6 : w2.heap.size + 1 + 1 + 1 + 1 + 1 + 1 < w5.heap.size := by omega
        try have lw5_w3_0 : w3.heap.size < w5.heap.size := by omega
        try have lw5_w3_1 : w3.heap.size + 1 < w5.heap.size := by omega
        try have lw5_w3_2 : w3.heap.size + 1 + 1 < w5.heap.size := by omega
        try have lw5_w3_3 : w3.heap.size + 1 + 1 + 1 < w5.heap.size := by omega
        try have lw5_w3_4 : w3.heap.size + 1 + 1 + 1 + 1 < w5.heap.size := by omega
        try have lw5_w3_5 : w3.heap.size + 1 + 1 + 1 + 1 + 1 < w5.heap.size := by omega
        try have lw5_w3_6 : w3.heap.size + 1 + 1 + 1 + 1 + 1 + 1 < w5.heap.size := by omega
        try have lw5_w4_0 : w4.heap.size < w5.heap.size := by omega
        try have lw5_w4_1 : w4.heap.size + 1 < w5.heap.size := by omega
        try have lw5_w4_2 : w4.heap.size + 1 + 1 < w5.heap.size := by omega
        try have lw5_w4_3 : w4.heap.size + 1 + 1 + 1 < w5.heap.size := by omega
        try have lw5_w4_4 : w4.heap.size + 1 + 1 + 1 + 1 < w5.heap.size := by omega
        try have lw5_w4_5 : w4.heap.size + 1 + 1 + 1 + 1 + 1 < w5.heap.size := by omega
        try have lw5_w4_6 : w4.heap.size + 1 + 1 + 1 + 1 + 1 + 1 < w5.heap.size := by omega
        first | rw [h3] | rw [h3']
        go_wp2_with fail
        refine bodyPost_ret (v := .tuple #[.agg #[.int .i64 0, .int .i64 0, .int .i64 0, .int .i64 0], .bool false]) (by simp [*, results, Tryd.results93, go_sem]) rfl ⟨rfl, ?_⟩
        (repeat (first | (with_reducible exact Below.refl _ _) | (with_reducible refine Ext.drewN ?_ _) | (with_reducible refine Below.drew ?_) | (with_reducible refine Ext.alloc ?_ _) | (with_reducible refine Ext.setCell ?_ (by simp; try omega) _) | (with_reducible refine Ext.trans ?_ (by assumption)) | (with_reducible assumption) | exact Below.refl _ _))
      | true =>
        rw [mvV_yes (by simp [mvB, h1, h2, h3])]
        unfold mr0 mr1 mr2 mr3 at h3 ⊢
        have h3' := h3
        simp only [lo2_min, hi2_max] at h3'
        go_enter Tryd.func93, Tryd.ntmps93
        go_wp2_with fail
        go_call (implValid_any) as e w1 ⟨rfl, bw1⟩
        obtain ⟨sw1, zw1, cw1, fw1⟩ := bcell bw1
        try simp only [World.size_alloc, World.size_setCell, World.size_drew] at sw1
        try have lw1_w_0 : w.heap.size < w1.heap.size := by omega
        try have lw1_w_1 : w.heap.size + 1 < w1.heap.size := by omega
        try have lw1_w_2 : w.heap.size + 1 + 1 < w1.heap.size := by omega
        try have lw1_w_3 : w.heap.size + 1 + 1 + 1 < w1.heap.size := by omega
        try have lw1_w_4 : w.heap.size + 1 + 1 + 1 + 1 < w1.heap.size := by omega
        try have lw1_w_5 : w.heap.size + 1 + 1 + 1 + 1 + 1 < w1.heap.size := by omega
        try have lw1_w_6 : w.heap.size + 1 + 1 + 1 + 1 + 1 + 1 < w1.heap.size := by omega
        rw [h1]
        go_wp2_with fail
        go_call (implValidRect_any _ _ _ _ _ (hC.ext (by (repeat (first | (with_reducible exact Below.refl _ _) | (with_reducible refine Ext.drewN ?_ _) | (with_reducible refine Below.drew ?_) | (with_reducible refine Ext.alloc ?_ _) | (with_reducible refine Ext.setCell ?_ (by simp; try omega) _) | (with_reducible refine Ext.trans ?_ (by assumption)) | (with_reducible assumption) | exact Below.refl _ _))))) as e w2 ⟨rfl, bw2⟩
        obtain ⟨sw2, zw2, cw2, fw2⟩ := bcell bw2
        try simp only [World.size_alloc, World.size_setCell, World.size_drew] at sw2
        try have lw2_w_0 : w.heap.size < w2.heap.size := by omega
        try have lw2_w_1 : w.heap.size + 1 < w2.heap.size := by omega
        try have lw2_w_2 : w.heap.size + 1 + 1 < w2.heap.size := by omega
        try have lw2_w_3 : w.heap.size + 1 + 1 + 1 < w2.heap.size := by omega
        try have lw2_w_4 : w.heap.size + 1 + 1 + 1 + 1 < w2.heap.size := by omega
        try have lw2_w_5 : w.heap.size + 1 + 1 + 1 + 1 + 1 < w2.heap.size := by omega
        try have lw2_w_6 : w.heap.size + 1 + 1 + 1 + 1 + 1 + 1 < w2.heap.size := by omega
        try have lw2_w1_0 : w1.heap.size < w2.heap.size := by omega
        try have lw2_w1_1 : w1.heap.size + 1 < w2.heap.size := by omega
        try have lw2_w1_2 : w1.heap.size + 1 + 1 < w2.heap.size := by omega
        try have lw2_w1_3 : w1.heap.size + 1 + 1 + 1 < w2.heap.size := by omega
        try have lw2_w1_4 : w1.heap.size + 1 + 1 + 1 + 1 < w2.heap.size := by omega
        try have lw2_w1_5 : w1.heap.size + 1 + 1 + 1 + 1 + 1 < w2.heap.size := by omega
        try have lw2_w1_6 : w1.heap.size + 1 + 1 + 1 + 1 + 1 + 1 < w2.heap.size := by omega
        rw [h2]
        go_wp2_with fail
        go_call (tImage_is n x y a b _ hn8 (hM.below (by (repeat (first | (with_reducible exact Below.refl _ _) | (with_reducible refine Ext.drewN ?_ _) | (with_reducible refine Below.drew ?_) | (with_reducible refine Ext.alloc ?_ _) | (with_reducible refine Ext.setCell ?_ (by simp; try omega) _) | (with_reducible refine Ext.trans ?_ (by assumption)) | (with_reducible assumption) | exact Below.refl _ _))) hms) (by omega) (by omega) (by omega) (by omega) (by omega) (by omega) (by omega) (by omega)) as e w3 ⟨rfl, bw3⟩
        obtain ⟨sw3, zw3, cw3, fw3⟩ := bcell bw3
        try simp only [World.size_alloc, World.size_setCell, World.size_drew] at sw3
        try have lw3_w_0 : w.heap.size < w3.heap.size := by omega
        try have lw3_w_1 : w.heap.size + 1 < w3.heap.size := by omega
        try have lw3_w_2 : w.heap.size + 1 + 1 < w3.heap.size := by omega
        try have lw3_w_3 : w.heap.size + 1 + 1 + 1 < w3.heap.size := by omega
        try have lw3_w_4 : w.heap.size + 1 + 1 + 1 + 1 < w3.heap.size := by omega
        try have lw3_w_5 : w.heap.size + 1 + 1 + 1 + 1 + 1 < w3.heap.size := by omega
        try have lw3_w_6 : w.heap.size + 1 + 1 + 1 + 1 + 1 + 1 < w3.heap.size := by omega
        try have lw3_w1_0 : w1.heap.size < w3.heap.size := by omega
        try have lw3_w1_1 : w1.heap.size + 1 < w3.heap.size := by omega
        try have lw3_w1_2 : w1.heap.size + 1 + 1 < w3.heap.size := by omega
        try have lw3_w1_3 : w1.heap.size + 1 + 1 + 1 < w3.heap.size := by omega
        try have lw3_w1_4 : w1.heap.size + 1 + 1 + 1 + 1 < w3.heap.size := by omega
        try have lw3_w1_5 : w1.heap.size + 1 + 1 + 1 + 1 + 1 < w3.heap.size := by omega
        try have lw3_w1_6 : w1.heap.size + 1 + 1 + 1 + 1 + 1 + 1 < w3.heap.size := by omega
        try have lw3_w2_0 : w2.heap.size < w3.heap.size := by omega
        try have lw3_w2_1 : w2.heap.size + 1 < w3.heap.size := by omega
        try have lw3_w2_2 : w2.heap.size + 1 + 1 < w3.heap.size := by omega
        try have lw3_w2_3 : w2.heap.size + 1 + 1 + 1 < w3.heap.size := by omega
        try have lw3_w2_4 : w2.heap.size + 1 + 1 + 1 + 1 < w3.heap.size := by omega
        try have lw3_w2_5 : w2.heap.size + 1 + 1 + 1 + 1 + 1 < w3.heap.size := by omega
        try have lw3_w2_6 : w2.heap.size + 1 + 1 + 1 + 1 + 1 + 1 < w3.heap.size := by omega
        go_wp2_with fail
        go_call (tImage_is n x y c d _ hn8 (hM.below (by (repeat (first | (with_reducible exact Below.refl _ _) | (with_reducible refine Ext.drewN ?_ _) | (with_reducible refine Below.drew ?_) | (with_reducible refine Ext.alloc ?_ _) | (with_reducible refine Ext.setCell ?_ (by simp; try omega) _) | (with_reducible refine Ext.trans ?_ (by assumption)) | (with_reducible assumption) | exact Below.refl _ _))) hms) (by omega) (by omega) (by omega) (by omega) (by omega) (by omega) (by omega) (by omega)) as e w4 ⟨rfl, bw4⟩
        obtain ⟨sw4, zw4, cw4, fw4⟩ := bcell bw4
        try simp only [World.size_alloc, World.size_setCell, World.size_drew] at sw4
        try have lw4_w_0 : w.heap.size < w4.heap.size := by omega
        try have lw4_w_1 : w.heap.size + 1 < w4.heap.size := by omega
        try have lw4_w_2 : w.heap.size + 1 + 1 < w4.heap.size := by omega
        try have lw4_w_3 : w.heap.size + 1 + 1 + 1 < w4.heap.size := by omega
        try have lw4_w_4 : w.heap.size + 1 + 1 + 1 + 1 < w4.heap.size := by omega
        try have lw4_w_5 : w.heap.size + 1 + 1 + 1 + 1 + 1 < w4.heap.size := by omega
        try have lw4_w_6 : w.heap.size + 1 + 1 + 1 + 1 + 1 + 1 < w4.heap.size := by omega
        try have lw4_w1_0 : w1.heap.size < w4.heap.size := by omega
        try have lw4_w1_1 : w1.heap.size + 1 < w4.heap.size := by omega
        try have lw4_w1_2 : w1.heap.size + 1 + 1 < w4.heap.size := by omega
        try have lw4_w1_3 : w1.heap.size + 1 + 1 + 1 < w4.heap.size := by omega
        try have lw4_w1_4 : w1.heap.size + 1 + 1 + 1 + 1 < w4.heap.size := by omega
        try have lw4_w1_5 : w1.heap.size + 1 + 1 + 1 + 1 + 1 < w4.heap.size := by omega
        try have lw4_w1_6 : w1.heap.size + 1 + 1 + 1 + 1 + 1 + 1 < w4.heap.size := by omega
        try have lw4_w2_0 : w2.heap.size < w4.heap.size := by omega
        try have lw4_w2_1 : w2.heap.size + 1 < w4.heap.size := by omega
        try have lw4_w2_2 : w2.heap.size + 1 + 1 < w4.heap.size := by omega
        try have lw4_w2_3 : w2.heap.size + 1 + 1 + 1 < w4.heap.size := by omega
        try have lw4_w2_4 : w2.heap.size + 1 + 1 + 1 + 1 < w4.heap.size := by omega
        try have lw4_w2_5 : w2.heap.size + 1 + 1 + 1 + 1 + 1 < w4.heap.size := by omega
        try have lw4_w2_6 : w2.heap.size + 1 + 1 + 1 + 1 + 1 + 1 < w4.heap.size := by omega
        try have lw4_w3_0 : w3.heap.size < w4.heap.size := by omega
        try have lw4_w3_1 : w3.heap.size + 1 < w4.heap.size := by omega
        try have lw4_w3_2 : w3.heap.size + 1 + 1 < w4.heap.size := by omega
        try have lw4_w3_3 : w3.heap.size + 1 + 1 + 1 < w4.heap.size := by omega
        try have lw4_w3_4 : w3.heap.size + 1 + 1 + 1 + 1 < w4.heap.size := by omega
        try have lw4_w3_5 : w3.heap.size + 1 + 1 + 1 + 1 + 1 < w4.heap.size := by omega
        try have lw4_w3_6 : w3.heap.size + 1 + 1 + 1 + 1 + 1 + 1 < w4.heap.size := by omega
        go_wp2_with fail
        go_call (implValidRect_any _ _ _ _ _ (hC.ext (by (repeat (first | (with_reducible exact Below.refl _ _) | (with_reducible refine Ext.drewN ?_ _) | (with_reducible refine Below.drew ?_) | (with_reducible refine Ext.alloc ?_ _) | (with_reducible refine Ext.setCell ?_ (by simp; try omega) _) | (with_reducible refine Ext.trans ?_ (by assumption)) | (with_reducible assumption) | exact Below.refl _ _))))) as e w5 ⟨rfl, bw5⟩
        obtain ⟨sw5, zw5, cw5, fw5⟩ := bcell bw5
        try simp only [World.size_alloc, World.size_setCell, World.size_drew] at sw5
        try have lw5_w_0 : w.heap.size < w5.heap.size := by omega
        try have lw5_w_1 : w.heap.size + 1 < w5.heap.size := by omega
        try have lw5_w_2 : w.heap.size + 1 + 1 < w5.heap.size := by omega
        try have lw5_w_3 : w.heap.size + 1 + 1 + 1 < w5.heap.size := by omega
        try have lw5_w_4 : w.heap.size + 1 + 1 + 1 + 1 < w5.heap.size := by omega
        try have lw5_w_5 : w.heap.size + 1 + 1 + 1 + 1 + 1 < w5.heap.size := by omega
        try have lw5_w_6 : w.heap.size + 1 + 1 + 1 + 1 + 1 + 1 < w5.heap.size := by omega
        try have lw5_w1_0 : w1.heap.size < w5.heap.size := by omega
        try have lw5_w1_1 : w1.heap.size + 1 < w5.heap.size := by omega
        try have lw5_w1_2 : w1.heap.size + 1 + 1 < w5.heap.size := by omega
        try have lw5_w1_3 : w1.heap.size + 1 + 1 + 1 < w5.heap.size := by omega
        try have lw5_w1_4 : w1.heap.size + 1 + 1 + 1 + 1 < w5.heap.size := by omega
        try have lw5_w1_5 : w1.heap.size + 1 + 1 + 1 + 1 + 1 < w5.heap.size := by omega
        try have lw5_w1_6 : w1.heap.size + 1 + 1 + 1 + 1 + 1 + 1 < w5.heap.size := by omega
        try have lw5_w2_0 : w2.heap.size < w5.heap.size := by omega
        try have lw5_w2_1 : w2.heap.size + 1 < w5.heap.size := by omega
        try have lw5_w2_2 : w2.heap.size + 1 + 1 < w5.heap.size := by omega
        try have lw5_w2_3 : w2.heap.size + 1 + 1 + 1 < w5.heap.size := by omega
        try have lw5_w2_4 : w2.heap.size + 1 + 1 + 1 + 1 < w5.heap.size := by omega
        try have lw5_w2_5 : w2.heap.size + 1 + 1 + 1 + 1 + 1 < w5.heap.size := by omega
        try have lw5_w2_6 : w2.heap.size + 1 + 1 + 1 + 1 + 1 + 1 < w5.heap.size := by omega
        try have lw5_w3_0 : w3.heap.size < w5.heap.size := by omega
        try have lw5_w3_1 : w3.heap.size + 1 < w5.heap.size := by omega
        try have lw5_w3_2 : w3.heap.size + 1 + 1 < w5.heap.size := by omega
        try have lw5_w3_3 : w3.heap.size + 1 + 1 + 1 < w5.heap.size := by omega
        try have lw5_w3_4 : w3.heap.size + 1 + 1 + 1 + 1 < w5.heap.size := by omega
        try have lw5_w3_5 : w3.heap.size + 1 + 1 + 1 + 1 + 1 < w5.heap.size := by omega
        try have lw5_w3_6 : w3.heap.size + 1 + 1 + 1 + 1 + 1 + 1 < w5.heap.size := by omega
        try have lw5_w4_0 : w4.heap.size < w5.heap.size := by omega
        try have lw5_w4_1 : w4.heap.size + 1 < w5.heap.size := by omega
        try have lw5_w4_2 : w4.heap.size + 1 + 1 < w5.heap.size := by omega
        try have lw5_w4_3 : w4.heap.size + 1 + 1 + 1 < w5.heap.size := by omega
        try have lw5_w4_4 : w4.heap.size + 1 + 1 + 1 + 1 < w5.heap.size := by omega
        try have lw5_w4_5 : w4.heap.size + 1 + 1 + 1 + 1 + 1 < w5.heap.size := by omega
        try have lw5_w4_6 : w4.heap.size + 1 + 1 + 1 + 1 + 1 + 1 < w5.heap.size := by omega
        first | rw [h3] | rw [h3']
        go_wp2_with fail
        refine bodyPost_ret (v := .tuple #[.agg #[.int .i64 _, .int .i64 _, .int .i64 _, .int .i64 _], .bool true]) (by simp [*, results, Tryd.results93, go_sem]; try exact ⟨rfl, rfl, rfl, rfl⟩) rfl ⟨ret_ix ?_ ?_ ?_ ?_, ?_⟩
        · first | rfl | exact (lo2_min _ _).symm
        · first | rfl | exact (lo2_min _ _).symm
        · first | rfl | exact (hi2_max _ _).symm
        · first | rfl | exact (hi2_max _ _).symm
        · (repeat (first | (with_reducible exact Below.refl _ _) | (with_reducible refine Ext.drewN ?_ _) | (with_reducible refine Below.drew ?_) | (with_reducible refine Ext.alloc ?_ _) | (with_reducible refine Ext.setCell ?_ (by simp; try omega) _) | (with_reducible refine Ext.trans ?_ (by assumption)) | (with_reducible assumption) | exact Below.refl _ _))
theorem implMoveRect_out (o x y a b c d : Int) (w : World) (hC : ChipW w) (hM : Mats w) : Calls Tryd.prog 93 #[.agg #[.int .i64 o, .int .i64 x, .int .i64 y], .agg #[.int .i64 a, .int .i64 b, .int .i64 c, .int .i64 d]] w fun e w' => e = .returned (.tuple #[.agg #[.int .i64 (mv0 o x y a b c d), .int .i64 (mv1 o x y a b c d), .int .i64 (mv2 o x y a b c d), .int .i64 (mv3 o x y a b c d)], .bool (mvB o x y a b c d)]) ∧ Below w.heap.size w w' := implMoveRect_any o x y a b c d w hC hM
end Go.Proofs.YtpbijohdnocleaaDoor

/- The model's MoveRegion. -/
namespace Go.Proofs.YtpbijohdnocleaaDoor
open Go.RowKit
set_option linter.unusedVariables false
set_option linter.unusedSimpArgs false
attribute [local go_sem ↓] Go.wp_at_zero Go.wp_at_succ

/-- The images of rectangles. -/
def imA (o x y : Int) (P Q R S : Nat → Int) (i : Nat) : Int := mr0 o x y (P i) (Q i) (R i) (S i)
def imB (o x y : Int) (P Q R S : Nat → Int) (i : Nat) : Int := mr1 o x y (P i) (Q i) (R i) (S i)
def imC (o x y : Int) (P Q R S : Nat → Int) (i : Nat) : Int := mr2 o x y (P i) (Q i) (R i) (S i)
def imD (o x y : Int) (P Q R S : Nat → Int) (i : Nat) : Int := mr3 o x y (P i) (Q i) (R i) (S i)
/-- The list of the first n images. -/
def imL (o x y : Int) (P Q R S : Nat → Int) (n : Nat) : List R4 := listR (imA o x y P Q R S) (imB o x y P Q R S) (imC o x y P Q R S) (imD o x y P Q R S) n
theorem imL_len (o x y : Int) (P Q R S : Nat → Int) (n : Nat) : (imL o x y P Q R S n).length = n := listR_len _ _ _ _ _
theorem imL_succ (o x y : Int) (P Q R S : Nat → Int) (n : Nat) : imL o x y P Q R S (n + 1) = imL o x y P Q R S n ++ [R4.mk (mr0 o x y (P n) (Q n) (R n) (S n)) (mr1 o x y (P n) (Q n) (R n) (S n)) (mr2 o x y (P n) (Q n) (R n) (S n)) (mr3 o x y (P n) (Q n) (R n) (S n))] := by
  unfold imL listR
  rw [List.range_succ, List.map_append]
  rfl
/-- Are the images valid? -/
def imV (o x y : Int) (P Q R S : Nat → Int) (n : Nat) : Bool := allV (imA o x y P Q R S) (imB o x y P Q R S) (imC o x y P Q R S) (imD o x y P Q R S) n
/-- The flags of the images' cells. -/
def imF (o x y : Int) (P Q R S : Nat → Int) (n : Nat) : Nat → Bool := covF (imA o x y P Q R S) (imB o x y P Q R S) (imC o x y P Q R S) (imD o x y P Q R S) n

theorem RectsL.listR {B n : Nat} {w : World} {a : Option Addr} {P Q R S : Nat → Int} (h : RectsL B w a (listR P Q R S n)) : RectsIs B w a n P Q R S := fun i hi => by
  have hg := listR_getD P Q R S n i hi
  obtain ⟨b, off, h1, h2, h3, h4, h5, h6⟩ := h i (by rw [listR_len]; exact hi)
  unfold pA at h3; unfold pB at h4; unfold pC at h5; unfold pD at h6
  rw [hg] at h3 h4 h5 h6
  exact ⟨b, off, h1, h2, h3, h4, h5, h6⟩
theorem imV_f {o x y : Int} {P Q R S : Nat → Int} {n i : Nat} (hi : i < n) (h : rvB (mr0 o x y (P i) (Q i) (R i) (S i)) (mr1 o x y (P i) (Q i) (R i) (S i)) (mr2 o x y (P i) (Q i) (R i) (S i)) (mr3 o x y (P i) (Q i) (R i) (S i)) = false) : imV o x y P Q R S n = false := allV_f hi h
/-- The list and the flag that l03Moved hands back. -/
def mvdL (o x y : Int) (P Q R S : Nat → Int) (n : Nat) : List R4 := if imV o x y P Q R S n = true then canonL (imF o x y P Q R S n) else []
theorem mvd_no {o x y : Int} {P Q R S : Nat → Int} {n : Nat} {e : Ending} {w : World} (h : imV o x y P Q R S n = false) (he : e = .returned (.tuple #[.slice none 0 0, .bool false])) : LRes2 (mvdL o x y P Q R S n) (imV o x y P Q R S n) e w := by
  have e0 : mvdL o x y P Q R S n = [] := by unfold mvdL; rw [if_neg (by simp [h])]
  rw [e0, h]
  exact ⟨none, 0, he, RectsL.nil _ _ _⟩
theorem mvd_yes {o x y : Int} {P Q R S : Nat → Int} {n h c B : Nat} {e : Ending} {w : World} (hv : imV o x y P Q R S n = true) (hI : RecIs B w h (canonL (imF o x y P Q R S n))) (he : e = .returned (.tuple #[.slice (some ⟨h, 0, none⟩) (canonL (imF o x y P Q R S n)).length c, .bool true])) : LRes2 (mvdL o x y P Q R S n) (imV o x y P Q R S n) e w := by
  have e0 : mvdL o x y P Q R S n = canonL (imF o x y P Q R S n) := by unfold mvdL; rw [if_pos hv]
  rw [e0, hv]
  exact ⟨_, c, he, hI.rects⟩
/-- A box of a transform. -/
def BoxT (w : World) (g : Nat) (o x y : Int) : Prop := w.cell? ⟨g, 0, none⟩ = some (.int .i64 o) ∧ w.cell? ⟨g, 1, none⟩ = some (.int .i64 x) ∧ w.cell? ⟨g, 2, none⟩ = some (.int .i64 y)
theorem BoxT.keep {B g : Nat} {w w' : World} {o x y : Int} (h : BoxT w g o x y) (hb : Below B w w') (hg : g < B) : BoxT w' g o x y :=
  ⟨(hb.cell (p := ⟨g, 0, none⟩) hg).trans h.1, (hb.cell (p := ⟨g, 1, none⟩) hg).trans h.2.1, (hb.cell (p := ⟨g, 2, none⟩) hg).trans h.2.2⟩

set_option maxHeartbeats 16000000 in
set_option maxRecDepth 100000 in
theorem l03Moved_any (o x y : Int) (m : Option Addr) (len cap : Nat) (P Q R S : Nat → Int) (w : World) (hlen : len ≤ 4000) (hR : RectsIs w.heap.size w m len P Q R S) (hv : ∀ i, i < len → rvB (P i) (Q i) (R i) (S i) = true) (ht : vldB o x y = true) :
    Calls Tryd.prog 91 #[.agg #[.int .i64 o, .int .i64 x, .int .i64 y], .slice m len cap] w fun e w' => LRes2 (mvdL o x y P Q R S len) (imV o x y P Q R S len) e w' ∧ Below w.heap.size w w' := by
  obtain ⟨i0, hi, hz0, hz1, hz2⟩ := info_parts Tryd.infoR
  obtain ⟨⟨i1, i2⟩, ⟨i3, i4⟩, i5, i6⟩ := vldB_t ht
  have HR := Lib.hid hR
  have HV := Lib.hid hv
  clear hR hv
  go_enter Tryd.func91, Tryd.ntmps91
  go_wp2_with fail
  go_loopw [6, 7] (fun v s wr => ∃ (i h c' : Nat), i ≤ len ∧ s = .int .i64 i ∧ v = .slice (some ⟨h, 0, none⟩) i c' ∧ Hid (wr.ownsRow (w.heap.size + 1) 36 4 (.slice (some ⟨h, 0, none⟩) i c') i (recCells (imL o x y P Q R S i))) ∧ Below w.heap.size w wr ∧ w.heap.size + 1 ≤ wr.heap.size ∧ Hid (BoxT wr w.heap.size o x y) ∧ Hid (imV o x y P Q R S i = true)) (fun _ s _ => len - (intOf s).toNat)
  case atStart =>
    refine ⟨0, _, _, by omega, rfl, rfl, Lib.hid ?_, by (repeat (first | (with_reducible exact Below.refl _ _) | (with_reducible refine Ext.drewN ?_ _) | (with_reducible refine Below.drew ?_) | (with_reducible refine Ext.alloc ?_ _) | (with_reducible refine Ext.setCell ?_ (by simp; try omega) _) | (with_reducible refine Ext.trans ?_ (by assumption)) | (with_reducible assumption) | exact Below.refl _ _)), by simp, Lib.hid (by simp [BoxT, go_sem]), Lib.hid rfl⟩
    have hm := World.ownsRow_made (base := w.heap.size + 1) (size := 4) (e := 36) (w.alloc (.cells #[.int .i64 o, .int .i64 x, .int .i64 y] 52)) #[] 0 (by simp) (by unfold maxLen; decide) rfl
    rw [World.size_alloc] at hm
    exact hm
  case round =>
    obtain ⟨i, h, c', hil, rfl, rfl, hown, hW, hsz, HT, HA⟩ := hrel
    by_cases hlt : i < len
    · obtain ⟨b1, o1, rfl, hb1, c0, c1, c2, c3⟩ := HR.out i hlt
      obtain ⟨j1, j2, j3, j4, j5, j6⟩ := rvB_t (HV.out i hlt)
      have q1 : (i : Int) < (len : Int) := by omega
      have q2 : (0 : Int) ≤ (i : Int) := by omega
      have d0 := keepC hW c0
      have d1 := keepC hW c1
      have d2 := keepC hW c2
      have d3 := keepC hW c3
      obtain ⟨t0, t1, t2⟩ := HT.out
      clear c0 c1 c2 c3
      go_upto_region 5 with fail
      go_cut [8] (fun s8 wx => ∃ g : Nat, s8 = .pointer (some ⟨g, 0, none⟩) ∧ wr.heap.size ≤ g ∧ g < wx.heap.size ∧ wx.cell? ⟨g, 0, none⟩ = some (.int .i64 (mr0 o x y (P i) (Q i) (R i) (S i))) ∧ wx.cell? ⟨g, 1, none⟩ = some (.int .i64 (mr1 o x y (P i) (Q i) (R i) (S i))) ∧ wx.cell? ⟨g, 2, none⟩ = some (.int .i64 (mr2 o x y (P i) (Q i) (R i) (S i))) ∧ wx.cell? ⟨g, 3, none⟩ = some (.int .i64 (mr3 o x y (P i) (Q i) (R i) (S i))) ∧ Below wr.heap.size wr wx)
      case first =>
        go_region_held3 (fun w' => Below wr.heap.size wr w' ∧ wr.heap.size ≤ w'.heap.size ∧ w'.cell? ⟨w.heap.size, 0, none⟩ = some (.int .i64 o) ∧ w'.cell? ⟨w.heap.size, 1, none⟩ = some (.int .i64 x) ∧ w'.cell? ⟨w.heap.size, 2, none⟩ = some (.int .i64 y) ∧ w'.cell? ⟨b1, o1 + i * 4, none⟩ = some (.int .i64 (P i)) ∧ w'.cell? ⟨b1, o1 + i * 4 + 1, none⟩ = some (.int .i64 (Q i)) ∧ w'.cell? ⟨b1, o1 + i * 4 + 2, none⟩ = some (.int .i64 (R i)) ∧ w'.cell? ⟨b1, o1 + i * 4 + 3, none⟩ = some (.int .i64 (S i)))
          (first | ((try dsimp only); go_split_ands; (repeat' (with_reducible refine And.intro ?_ ?_)) <;> first | ((repeat (with_reducible refine keepS ?_ (by simp; try omega) _)); (first | (with_reducible assumption) | (with_reducible exact keepC (by assumption) (by assumption)) | (with_reducible exact keepA (by assumption) _) | (with_reducible exact keepR (by assumption) (by omega) _))) | ((try simp only [World.size_alloc, World.size_setCell, World.size_drew]); omega) | (refine Mats.below hM ?_ hM.size; (repeat (first | (with_reducible exact Below.refl _ _) | (with_reducible refine Ext.drewN ?_ _) | (with_reducible refine Below.drew ?_) | (with_reducible refine Ext.alloc ?_ _) | (with_reducible refine Ext.setCell ?_ (by simp; try omega) _) | (with_reducible refine Ext.trans ?_ (by assumption)) | (with_reducible assumption) | exact Below.refl _ _)); done) | ((repeat (first | (with_reducible exact Below.refl _ _) | (with_reducible refine Ext.drewN ?_ _) | (with_reducible refine Below.drew ?_) | (with_reducible refine Ext.alloc ?_ _) | (with_reducible refine Ext.setCell ?_ (by simp; try omega) _) | (with_reducible refine Ext.trans ?_ (by assumption)) | (with_reducible assumption) | exact Below.refl _ _)); done) | (go_keep; done)))
          ((go_at_call 119; refine (l02Move_any o x y (P i) (Q i) (R i) (S i) _ (by omega) (by omega) (by omega) (by omega) (by omega) (by omega) (by omega) (by omega) (by omega) (by omega) (by omega) (by omega) (by omega) (by omega)).mono ?_; rintro e v2 ⟨rfl, bv2⟩; obtain ⟨sv2, zv2, cv2, fv2⟩ := bcell bv2; (try simp only [World.size_alloc, World.size_setCell, World.size_drew] at sv2); have lv2 := bv2.size))
        all_goals
          go_wp2_with fail
          go_meet
          refine ⟨_, rfl, ?_, ?_, ?_, ?_, ?_, ?_, ?_⟩
          · (try simp only [World.size_alloc, World.size_setCell, World.size_drew]); omega
          · (try simp only [World.size_alloc, World.size_setCell, World.size_drew]); omega
          · first | (simp [go_sem]; done) | (refine (set4_0 (u0 := .int .i64 0) (u1 := .int .i64 0) (u2 := .int .i64 0) (u3 := .int .i64 0) ?_ ?_ ?_ ?_) <;> ((repeat (with_reducible refine keepC (by assumption) ?_)); simp [go_sem]))
          · first | (simp [go_sem]; done) | (refine (set4_1 (u0 := .int .i64 0) (u1 := .int .i64 0) (u2 := .int .i64 0) (u3 := .int .i64 0) ?_ ?_ ?_ ?_) <;> ((repeat (with_reducible refine keepC (by assumption) ?_)); simp [go_sem]))
          · first | (simp [go_sem]; done) | (refine (set4_2 (u0 := .int .i64 0) (u1 := .int .i64 0) (u2 := .int .i64 0) (u3 := .int .i64 0) ?_ ?_ ?_ ?_) <;> ((repeat (with_reducible refine keepC (by assumption) ?_)); simp [go_sem]))
          · first | (simp [go_sem]; done) | (refine (set4_3 (u0 := .int .i64 0) (u1 := .int .i64 0) (u2 := .int .i64 0) (u3 := .int .i64 0) ?_ ?_ ?_ ?_) <;> ((repeat (with_reducible refine keepC (by assumption) ?_)); simp [go_sem]))
          · (repeat (first | (with_reducible exact Below.refl _ _) | (with_reducible refine Ext.drewN ?_ _) | (with_reducible refine Below.drew ?_) | (with_reducible refine Ext.alloc ?_ _) | (with_reducible refine Ext.setCell ?_ (by simp; try omega) _) | (with_reducible refine Ext.trans ?_ (by assumption)) | (with_reducible assumption) | exact Below.refl _ _))
      case rest =>
        obtain ⟨g, rfl, hg0, hg1, m0, m1, m2, m3, bq⟩ := hcut
        have BW : Below w.heap.size w wc := Ext.trans hW bq
        have O1 := Lib.hid (own_keep hown.out bq)
        have T1 := Lib.hid (HT.out.keep bq (by omega))
        have szc : w.heap.size + 1 ≤ wc.heap.size := Nat.le_trans hsz bq.size
        clear hown HT d0 d1 d2 d3 t0 t1 t2
        cases hvm : rvB (mr0 o x y (P i) (Q i) (R i) (S i)) (mr1 o x y (P i) (Q i) (R i) (S i)) (mr2 o x y (P i) (Q i) (R i) (S i)) (mr3 o x y (P i) (Q i) (R i) (S i)) with
        | false =>
          have HN := Lib.hid (imV_f hlt hvm)
          go_wp2_with (go_at_call 86; refine (specValidRect_any _ _ _ _ _).mono ?_; rintro e w1 ⟨rfl, bw1⟩; rw [hvm])
          go_ret2
          exact ⟨mvd_no HN.out rfl, by (repeat (first | (with_reducible exact Below.refl _ _) | (with_reducible refine Ext.drewN ?_ _) | (with_reducible refine Below.drew ?_) | (with_reducible refine Ext.alloc ?_ _) | (with_reducible refine Ext.setCell ?_ (by simp; try omega) _) | (with_reducible refine Ext.trans ?_ (by assumption)) | (with_reducible assumption) | exact Below.refl _ _))⟩
        | true =>
          have HY : Hid (imV o x y P Q R S (i + 1) = true) := Lib.hid (by unfold imV; rw [allV_succ]; exact Bool.and_eq_true_iff.2 ⟨HA.out, hvm⟩)
          have HVM := Lib.hid hvm
          have HS := Lib.hid (imL_succ o x y P Q R S i)
          generalize mr0 o x y (P i) (Q i) (R i) (S i) = v0 at m0 HS HVM ⊢
          generalize mr1 o x y (P i) (Q i) (R i) (S i) = v1 at m1 HS HVM ⊢
          generalize mr2 o x y (P i) (Q i) (R i) (S i) = v2 at m2 HS HVM ⊢
          generalize mr3 o x y (P i) (Q i) (R i) (S i) = v3 at m3 HS HVM ⊢
          clear hvm
          go_upto_region 8 with (go_at_call 86; refine (specValidRect_any _ _ _ _ _).mono ?_; rintro e w1 ⟨rfl, bw1⟩; rw [HVM.out])
          have n0 := keepC bw1 m0
          have n1 := keepC bw1 m1
          have n2 := keepC bw1 m2
          have n3 := keepC bw1 m3
          have O2 := Lib.hid (own_keep O1.out bw1)
          have T2 := Lib.hid (T1.out.keep bw1 (by omega))
          have B2 : Below w.heap.size w w1 := Ext.trans BW bw1
          have sz1 : w.heap.size + 1 ≤ w1.heap.size := Nat.le_trans szc bw1.size
          have OL := O2.out.lt
          clear O1 T1 m0 m1 m2 m3 HA
          go_wp2_with (at_builtin; refine wpList_append_own _ rfl _ _ 25 rfl (w.heap.size + 1) 36 i0 (.agg #[.int .i64 0, .int .i64 0, .int .i64 0, .int .i64 0]) 4 32 Tryd.underlying25 hi hz0 hz1 hz2 rfl (by decide) _ _ _ rfl (O2.out.alloc _) ⟨w1.heap.size, 0, none⟩ 1 1 [.int .i64 v0, .int .i64 v1, .int .i64 v2, .int .i64 v3] rfl rfl ?c1 ?c2 ?c3 ?c4 ?c5 ?_)
          case c1 =>
            intro j u hj
            match j, hj with
            | 0, hj => simp at hj; subst hj; rw [addG]; simp [go_sem]
            | 1, hj => simp at hj; subst hj; rw [addG]; simp [go_sem]
            | 2, hj => simp at hj; subst hj; rw [addG]; simp [go_sem]
            | 3, hj => simp at hj; subst hj; rw [addG]; simp [go_sem]
            | j + 4, hj => simp at hj
          case c2 =>
            intro u hu
            simp at hu
            rcases hu with rfl | rfl | rfl | rfl <;> rfl
          case c3 => unfold maxLen; omega
          case c4 => omega
          case c5 => (try simp only [World.size_alloc]); omega
          intro v' wn hown' hgrow _
          have BN : Below w.heap.size w wn := (B2.alloc B2.size _).grown hgrow (by have := B2.size; simp; omega) (fun j hj => by have := (OL j hj).1; omega)
          have hne : some w.heap.size ≠ (Value.slice (some ⟨h, 0, none⟩) i c').ownBlock := by
            intro e
            have := (OL w.heap.size e.symm).1
            omega
          have TA := T2.out.keep ((Below.refl w1.heap.size w1).alloc (Nat.le_refl _) (.cells #[.int .i64 v0, .int .i64 v1, .int .i64 v2, .int .i64 v3] 36)) (by omega)
          have TN : Hid (BoxT wn w.heap.size o x y) := Lib.hid ⟨hgrow.cell TA.1 hne, hgrow.cell TA.2.1 hne, hgrow.cell TA.2.2 hne⟩
          have hlen' : (imL o x y P Q R S i ++ [R4.mk v0 v1 v2 v3]).length = i + 1 := by rw [← HS.out, imL_len]
          obtain ⟨g', cc, rfl, hown3⟩ := rec_next (r := R4.mk v0 v1 v2 v3) (imL_len o x y P Q R S i).symm hown'
          rw [hlen', ← HS.out] at hown3
          rw [hlen']
          have ON := Lib.hid hown3
          have SN : w.heap.size + 1 ≤ wn.heap.size := by
            have := (hown3.lt g' rfl)
            omega
          clear hown' hgrow hown3 TA hlen' hne OL
          go_wp2_with fail
          go_roundw
          case rel => exact ⟨i + 1, g', cc, by omega, by go_num, rfl, ON, BN, SN, TN, HY⟩
          case measure => simp [intOf]; omega
    · obtain rfl : i = len := by omega
      have q1 : ¬ (i : Int) < (i : Int) := by omega
      have hrs := Lib.hid (RectsL.listR (rec_own hown.out).rects)
      have HALL : Hid (∀ j, j < i → rvB (imA o x y P Q R S j) (imB o x y P Q R S j) (imC o x y P Q R S j) (imD o x y P Q R S j) = true) := Lib.hid (fun j hj => allV_at HA.out hj)
      clear hown HT
      go_wp2_with (first | (go_at_call 70; refine (l03Bits_any _ i _ (imA o x y P Q R S) (imB o x y P Q R S) (imC o x y P Q R S) (imD o x y P Q R S) _ (by omega) hrs.out HALL.out).mono ?_; rintro e w2 ⟨⟨g, rfl, hg0, hg⟩, bw2⟩; have HG := Lib.hid hg; clear hg) | (go_at_call 69; refine (l03Canon_any g 6400 (imF o x y P Q R S i) _ HG.out).mono ?_; rintro e w3 ⟨⟨h3, c3, rfl, hI⟩, bw3⟩; have HI := Lib.hid hI; clear hI))
      go_ret2
      exact ⟨mvd_yes HA.out HI.out rfl, Ext.trans (Ext.trans hW bw2) bw3⟩
end Go.Proofs.YtpbijohdnocleaaDoor

/- The model's MoveRegion and the walk of FnExactMoveRegion over a contract of the program's function. Condition: the rectangles' cells are in memory. -/
namespace Go.Proofs.YtpbijohdnocleaaDoor
open Go.RowKit
set_option linter.unusedVariables false
set_option linter.unusedSimpArgs false
attribute [local go_sem ↓] Go.wp_at_zero Go.wp_at_succ

/-- What MoveRegion answers. -/
def mgB (o x y : Int) (P Q R S : Nat → Int) (n : Nat) : Bool := vldB o x y && (okR P Q R S n && imV o x y P Q R S n)
def mgL (o x y : Int) (P Q R S : Nat → Int) (n : Nat) : List R4 := if mgB o x y P Q R S n = true then canonL (imF o x y P Q R S n) else []
theorem mgL_len (o x y : Int) (P Q R S : Nat → Int) (n : Nat) : (mgL o x y P Q R S n).length ≤ 3280 := by
  unfold mgL; split
  · exact canonL_len _
  · simp
theorem mg_no {o x y : Int} {P Q R S : Nat → Int} {n : Nat} {e : Ending} {w : World} (h : mgB o x y P Q R S n = false) (he : e = .returned (.tuple #[.slice none 0 0, .bool false])) : LRes2 (mgL o x y P Q R S n) (mgB o x y P Q R S n) e w := by
  have e0 : mgL o x y P Q R S n = [] := by unfold mgL; rw [if_neg (by simp [h])]
  rw [e0, h]
  exact ⟨none, 0, he, RectsL.nil _ _ _⟩
theorem okR_len {P Q R S : Nat → Int} {n : Nat} (h : okR P Q R S n = true) : n ≤ 3200 := by
  unfold okR okV at h
  simp only [Bool.and_eq_true, decide_eq_true_eq] at h
  exact h.1.1.1

set_option maxHeartbeats 8000000 in
theorem specMoveRegion_all (o x y : Int) (m : Option Addr) (len cap : Nat) (P Q R S : Nat → Int) (w : World) (hlen : len ≤ 1048576) (hR : RectsIs w.heap.size w m len P Q R S) :
    Calls Tryd.prog 43 #[.agg #[.int .i64 o, .int .i64 x, .int .i64 y], .slice m len cap] w fun e w' => LRes2 (mgL o x y P Q R S len) (mgB o x y P Q R S len) e w' ∧ Below w.heap.size w w' := by
  have HR := Lib.hid hR
  clear hR
  cases h1 : vldB o x y with
  | false =>
    have HN := Lib.hid (show mgB o x y P Q R S len = false by unfold mgB; rw [h1]; rfl)
    go_enter Tryd.func43, Tryd.ntmps43
    go_wp2_with (go_at_call 90; refine (specValid_any _ _ _ _).mono ?_; rintro e w1 ⟨rfl, bw1⟩; rw [h1])
    go_ret2
    exact ⟨mg_no HN.out rfl, by (repeat (first | (with_reducible exact Below.refl _ _) | (with_reducible refine Ext.drewN ?_ _) | (with_reducible refine Below.drew ?_) | (with_reducible refine Ext.alloc ?_ _) | (with_reducible refine Ext.setCell ?_ (by simp; try omega) _) | (with_reducible refine Ext.trans ?_ (by assumption)) | (with_reducible assumption) | exact Below.refl _ _))⟩
  | true =>
    cases hok : okR P Q R S len with
    | false =>
      have HN := Lib.hid (show mgB o x y P Q R S len = false by unfold mgB; rw [hok]; simp)
      go_enter Tryd.func43, Tryd.ntmps43
      go_wp2_with (first | (go_at_call 90; refine (specValid_any _ _ _ _).mono ?_; rintro e w1 ⟨rfl, bw1⟩; rw [h1]; have B1 : Below w.heap.size w w1 := (by (repeat (first | (with_reducible exact Below.refl _ _) | (with_reducible refine Ext.drewN ?_ _) | (with_reducible refine Below.drew ?_) | (with_reducible refine Ext.alloc ?_ _) | (with_reducible refine Ext.setCell ?_ (by simp; try omega) _) | (with_reducible refine Ext.trans ?_ (by assumption)) | (with_reducible assumption) | exact Below.refl _ _)))) | (go_at_call 66; refine (l03Ok_any m len cap P Q R S _ hlen (HR.out.ext B1)).mono ?_; rintro e w2 ⟨rfl, bw2⟩; rw [hok]))
      go_ret2
      exact ⟨mg_no HN.out rfl, Ext.trans B1 bw2⟩
    | true =>
      have HALL := Lib.hid (okR_all hok)
      have hl := okR_len hok
      have hB : mgB o x y P Q R S len = imV o x y P Q R S len := by unfold mgB; rw [h1, hok]; rfl
      have hL : mgL o x y P Q R S len = mvdL o x y P Q R S len := by unfold mgL mvdL; rw [hB]
      rw [hB, hL]
      clear hB hL
      have H1 := Lib.hid h1
      obtain ⟨l, hl'⟩ : ∃ l, l = mvdL o x y P Q R S len := ⟨_, rfl⟩
      obtain ⟨b, hb'⟩ : ∃ b, b = imV o x y P Q R S len := ⟨_, rfl⟩
      rw [← hl', ← hb']
      have HL := Lib.hid hl'
      have HB := Lib.hid hb'
      clear hl' hb'
      go_enter Tryd.func43, Tryd.ntmps43
      go_wp2_with (first | (go_at_call 90; refine (specValid_any _ _ _ _).mono ?_; rintro e w1 ⟨rfl, bw1⟩; rw [h1]; have T1 : Hid (BoxT w1 w.heap.size o x y) := Lib.hid ⟨keepC bw1 (by simp [go_sem]), keepC bw1 (by simp [go_sem]), keepC bw1 (by simp [go_sem])⟩; have B1 : Below w.heap.size w w1 := (by (repeat (first | (with_reducible exact Below.refl _ _) | (with_reducible refine Ext.drewN ?_ _) | (with_reducible refine Below.drew ?_) | (with_reducible refine Ext.alloc ?_ _) | (with_reducible refine Ext.setCell ?_ (by simp; try omega) _) | (with_reducible refine Ext.trans ?_ (by assumption)) | (with_reducible assumption) | exact Below.refl _ _)))) | (go_at_call 66; refine (l03Ok_any m len cap P Q R S _ hlen (HR.out.ext B1)).mono ?_; rintro e w2 ⟨rfl, bw2⟩; rw [hok]; have B2 : Below w.heap.size w w2 := Ext.trans B1 bw2; have lw : w.heap.size < w1.heap.size := World.block_lt_of_cell? w1 ⟨w.heap.size, 0, none⟩ T1.out.1; obtain ⟨t0, t1, t2⟩ := T1.out.keep bw2 lw) | (go_at_call 91; refine (l03Moved_any o x y m len cap P Q R S _ (by omega) (HR.out.ext B2) HALL.out H1.out).mono ?_; rintro e w3 ⟨⟨a0, c0, rfl, R0⟩, bw3⟩; rw [← HL.out, ← HB.out]; rw [← HL.out] at R0; have R0 := Lib.hid R0))
      go_ret2
      exact ⟨⟨a0, c0, rfl, R0.out⟩, Ext.trans B2 bw3⟩
end Go.Proofs.YtpbijohdnocleaaDoor

/- The walk of FnExactMoveRegion over a contract of the program's function. Condition: the rectangles' cells are in memory. -/
namespace Go.Proofs.YtpbijohdnocleaaDoor
open Go.RowKit
set_option linter.unusedVariables false
set_option linter.unusedSimpArgs false

/-- The contract that the walk asks of the program's MoveRegion. -/
def ImplMoveRegion : Prop := ∀ (o x y : Int) (m : Option Addr) (n cap : Nat) (P Q R S : Nat → Int) (W : World), n ≤ 1048576 → n ≤ cap → EnvW W → Mats W → RectsIs W.heap.size W m n P Q R S → Calls Tryd.prog 45 #[.agg #[.int .i64 o, .int .i64 x, .int .i64 y], .slice m n cap] W fun e W' => LOwn2 W.heap.size (mgL o x y P Q R S n) (mgB o x y P Q R S n) e W' ∧ Below W.heap.size W W'
theorem BoxT.wr {g b : Nat} {w w' : World} {o x y : Int} (h : BoxT w b o x y) (hw : Wr g w w') (hne : b ≠ g) : BoxT w' b o x y :=
  ⟨hw.cell h.1 hne, hw.cell h.2.1 hne, hw.cell h.2.2 hne⟩

set_option maxHeartbeats 16000000 in
set_option maxRecDepth 100000 in
theorem walkMoveRegion (hI : ImplMoveRegion) (o x y : Int) (a : Option Addr) (n c1 : Nat) (w : World) (hDb : EnvW w) (hM : Mats w) (hn : n ≤ maxLen) (hPe : ∃ P Q R S, RectsIs w.heap.size w a n P Q R S) :
    Calls Tryd.prog 10 #[.agg #[.int .i64 o, .int .i64 x, .int .i64 y], .slice a n c1] w fun e w' => e = .returned (.bool true) ∧ Below w.heap.size w w' := by
  obtain ⟨P, Q, R, S, hP⟩ := hPe
  have HP := Lib.hid hP
  have HI := Lib.hid hI
  have HD := Lib.hid hDb
  clear hP hI hDb
  by_cases h1 : n ≤ 1048576
  case neg =>
    go_enter Tryd.func10, Tryd.ntmps10
    go_wp2_with fail
    refine (szRectS_any a n c1 1048576 _ (by omega) (by omega) hn).mono ?_
    rintro e w1 ⟨rfl, rfl⟩
    rw [if_neg (by omega)]
    go_wp2_with fail
    go_ret
    exact ⟨rfl, by (repeat (first | (with_reducible exact Below.refl _ _) | (with_reducible refine Ext.drewN ?_ _) | (with_reducible refine Below.drew ?_) | (with_reducible refine Ext.alloc ?_ _) | (with_reducible refine Ext.setCell ?_ (by simp; try omega) _) | (with_reducible refine Ext.trans ?_ (by assumption)) | (with_reducible assumption) | exact Below.refl _ _))⟩
  have q1 : ¬ ((1048576 : Int) - n < 0) := by omega
  have hlen := mgL_len o x y P Q R S n
  obtain ⟨l, hl⟩ : ∃ l, l = mgL o x y P Q R S n := ⟨_, rfl⟩
  rw [← hl] at hlen
  have HL := Lib.hid hl
  obtain ⟨b, hb⟩ : ∃ b, b = mgB o x y P Q R S n := ⟨_, rfl⟩
  have HB := Lib.hid hb
  clear hl hb
  obtain ⟨N, hN⟩ : ∃ N, N = l.length := ⟨_, rfl⟩
  have HN := Lib.hid hN
  rw [← hN] at hlen
  clear hN
  have hne : (!(b == b)) = false := by simp
  have hne' : (b != b) = false := by simp
  have hmm : ((1 + 4 * (N : Int)) != (1 + 4 * (N : Int))) = false := by simp
  have hnn : ¬ (1 + 4 * (N : Int)) < 0 := by omega
  have hn1 : ¬ (1 + 4 * (n : Int)) < 0 := by omega
  go_enter Tryd.func10, Tryd.ntmps10
  go_wp2_with fail
  refine (szRectS_any a n c1 1048576 _ (by omega) (by omega) hn).mono ?_
  rintro e w1 ⟨rfl, rfl⟩
  rw [if_pos (by omega)]
  go_wp2_with fail
  refine (toTransform_any o x y _).mono ?_
  rintro e w0 ⟨rfl, bw0⟩
  have B0 : Below w.heap.size w w0 := by (repeat (first | (with_reducible exact Below.refl _ _) | (with_reducible refine Ext.drewN ?_ _) | (with_reducible refine Below.drew ?_) | (with_reducible refine Ext.alloc ?_ _) | (with_reducible refine Ext.setCell ?_ (by simp; try omega) _) | (with_reducible refine Ext.trans ?_ (by assumption)) | (with_reducible assumption) | exact Below.refl _ _))
  have l0 := bw0.size
  rw [World.size_alloc] at l0
  have E0 : Hid (BoxT w0 w.heap.size o x y) := Lib.hid ⟨keepC bw0 (by simp [go_sem]), keepC bw0 (by simp [go_sem]), keepC bw0 (by simp [go_sem])⟩
  clear bw0
  go_wp2_with fail
  refine (toRectS_any a n c1 P Q R S _ h1 (HP.out.ext B0)).mono ?_
  rintro e w1 ⟨g1, ga1, gb1, rfl, bw1, P1⟩
  have E1 := Lib.hid (E0.out.keep bw1 (by omega))
  have l1 := bw1.size
  clear E0
  go_wp2_with fail
  refine (specMoveRegion_all o x y (some ⟨g1, 0, none⟩) n n P Q R S _ h1 P1).mono ?_
  rintro e w2 ⟨⟨a0, c0, rfl, R0⟩, bw2⟩
  have E2 := Lib.hid (E1.out.keep bw2 (by omega))
  have l2 := bw2.size
  clear E1
  rw [← HL.out, ← HB.out, ← HN.out]
  rw [← HL.out] at R0
  have B2 := Ext.trans (Ext.trans B0 bw1) bw2
  clear bw1 bw2 P1 ga1 gb1
  have R0 := Lib.hid R0
  go_wp2_with fail
  refine (toRectS_row a n c1 P Q R S _ h1 (HP.out.ext B2)).mono ?_
  rintro e w3a ⟨g3, ga3, gb3a, rfl, bw3a, X3a⟩
  have X3a := Lib.hid X3a
  have E3a := E2.out.keep bw3a (by omega)
  obtain ⟨x0, x1, x2⟩ := E3a
  go_wp2_with fail
  refine (toTransform_any o x y _).mono ?_
  rintro e w3 ⟨rfl, bw3b⟩
  have bw3 : Below w2.heap.size w2 w3 := Ext.trans bw3a bw3b
  have gb3 : g3 < w3.heap.size := Nat.lt_of_lt_of_le gb3a bw3b.size
  have B3 := Ext.trans B2 bw3
  have R3 := Lib.hid (R0.out.below bw3)
  have X3 := Lib.hid (X3a.out.below bw3b gb3a)
  have E3 := Lib.hid (E2.out.keep bw3 (by omega))
  have lw3 : w.heap.size < w3.heap.size := by have := bw3.size; omega
  clear R0 X3a bw3a bw3b E2 x0 x1 x2
  go_wp2_with fail
  refine (HI.out o x y (some ⟨g3, 0, none⟩) n n P Q R S _ h1 (Nat.le_refl _) (HD.out.ext B3) (Mats.below hM B3 hM.size) X3.out.rects).mono ?_
  rintro e w4 ⟨⟨a4, c4, rfl, O4⟩, bw4⟩
  rw [← HL.out, ← HB.out, ← HN.out]
  rw [← HL.out] at O4
  have O4 := Lib.hid O4
  have B4 := Ext.trans B3 bw4
  have R4 := Lib.hid (R3.out.below (bw4.mono bw3.size))
  have X4 := Lib.hid (X3.out.below bw4 gb3)
  have l4 := bw4.size
  have l23 := bw3.size
  have E4 := Lib.hid (E3.out.keep bw4 lw3)
  clear R3 X3 bw4 bw3 E3
  go_wp2_with fail
  rw [HN.out]
  refine (eqRectS_any a4 a0 l.length c4 c0 (pA l) (pB l) (pC l) (pD l) _ (by have := HN.out; omega) O4.out.rects (R4.out.mono (by omega))).mono ?_
  rintro e w5 ⟨rfl, bw5⟩
  rw [← HN.out]
  have B5 := Ext.trans B4 bw5
  go_wp2_with fail
  refine (toRectS_any a n c1 P Q R S _ h1 (HP.out.ext B5)).mono ?_
  rintro e w6 ⟨g6, ga6, gb6, rfl, bw6, P6⟩
  have X6 := Lib.hid (X4.out.below (Ext.trans bw5 bw6) (by omega))
  go_wp2_with fail
  refine (eqRectS_any (some ⟨g3, 0, none⟩) (some ⟨g6, 0, none⟩) n n n P Q R S _ h1 X6.out.rects P6).mono ?_
  rintro e w7 ⟨rfl, bw7⟩
  have K := Ext.trans (Ext.trans bw5 bw6) bw7
  have O7 := Lib.hid (O4.out.below K)
  have R7 := Lib.hid (R4.out.below (K.mono (by omega)))
  have X7 := Lib.hid (X4.out.below K (by omega))
  have B7 := Ext.trans B4 K
  have l7 := K.size
  have E7 := Lib.hid (E4.out.keep K (by omega))
  clear E4
  clear O4 R4 X4 X6 K bw5 bw6 bw7 P6 B5 ga6 gb6
  go_wp2_with fail
  refine (markRectS_row g3 n n 1 P Q R S _ h1 (by omega) (by omega) (by omega) X7.out).mono ?_
  rintro e w8 ⟨rfl, -, hw⟩
  have O8 := Lib.hid (O7.out.wr hw gb3)
  have R8 := Lib.hid (R7.out.below (Wr.below (Below.refl _ _) hw (by omega) ga3))
  have l8 := hw.size
  have E8 := Lib.hid (E7.out.wr hw (by omega))
  clear E7
  have B8 : Below w.heap.size w w8 := Wr.below B7 hw (by have := B7.size; omega) (by have := B2.size; omega)
  clear O7 R7 X7 hw B7
  go_wp2_with fail
  rw [HN.out]
  refine (eqRectS_any a4 a0 l.length c4 c0 (pA l) (pB l) (pC l) (pD l) _ (by have := HN.out; omega) O8.out.rects (R8.out.mono (by omega))).mono ?_
  rintro e w9 ⟨rfl, bw9⟩
  rw [← HN.out]
  have O9 := Lib.hid (O8.out.below bw9)
  have R9 := Lib.hid (R8.out.below (bw9.mono (by omega)))
  have B9 := Ext.trans B8 bw9
  have l9 := bw9.size
  have E9 := Lib.hid (E8.out.keep bw9 (by omega))
  clear E8
  clear O8 R8 bw9
  go_wp2_with fail
  rw [HN.out]
  refine (markOwn w3.heap.size a4 l c4 1 _ (by omega) (by have := HN.out; omega) (by omega) (by omega) O9.out).mono ?_
  rintro e w10 ⟨rfl, H10, bw10⟩
  rw [← HN.out]
  have H10 := Lib.hid H10
  have R10 := Lib.hid (R9.out.below (bw10.mono (by omega)))
  have B10 : Below w.heap.size w w10 := B9.trans (bw10.mono (by have := B3.size; omega))
  have l10 := bw10.size
  have E10 := Lib.hid (E9.out.keep bw10 lw3)
  clear E9
  clear O9 R9 bw10
  go_wp2_with fail
  rw [HN.out]
  refine (heldOwn w3.heap.size a4 l.length c4 1 _ (by have := HN.out; omega) (by omega) (by omega) H10.out).mono ?_
  rintro e w10' ⟨rfl, rfl⟩
  rw [← HN.out]
  obtain ⟨x0, x1, x2⟩ := E10.out
  go_wp2_with fail
  refine (toTransform_any o x y _).mono ?_
  rintro e wt ⟨rfl, bwt⟩
  have BT := Ext.trans B10 bwt
  have lt := bwt.size
  clear x0 x1 x2 E10
  go_wp2_with fail
  refine (toRectS_any a n c1 P Q R S _ h1 (HP.out.ext BT)).mono ?_
  rintro e w11 ⟨g11, ga11, gb11, rfl, bw11a, P11⟩
  have bw11 := Ext.trans bwt bw11a
  have B11 := Ext.trans B10 bw11
  clear bw11a bwt
  go_wp2_with fail
  refine (HI.out o x y (some ⟨g11, 0, none⟩) n n P Q R S _ h1 (Nat.le_refl _) (HD.out.ext B11) (Mats.below hM B11 hM.size) P11).mono ?_
  rintro e w12 ⟨⟨a12, c12, rfl, O12⟩, bw12⟩
  rw [← HL.out, ← HB.out, ← HN.out]
  rw [← HL.out] at O12
  have K := Ext.trans bw11 bw12
  have O12 := Lib.hid O12
  have R12 := Lib.hid (R10.out.below (K.mono (by omega)))
  have H12 := Lib.hid (H10.out.below K)
  have B12 := Ext.trans B10 K
  have l12 := K.size
  clear R10 H10 K bw11 bw12 P11 ga11 gb11
  go_wp2_with fail
  rw [HN.out]
  refine (eqRectS_any a12 a0 l.length c12 c0 (pA l) (pB l) (pC l) (pD l) _ (by have := HN.out; omega) O12.out.rects (R12.out.mono (by omega))).mono ?_
  rintro e w13 ⟨rfl, bw13⟩
  rw [← HN.out]
  have H13 := Lib.hid (H12.out.below bw13)
  have B13 := Ext.trans B12 bw13
  clear bw13 R12 H12 O12
  go_wp2_with fail
  rw [HN.out]
  refine (heldOwn w3.heap.size a4 l.length c4 1 _ (by have := HN.out; omega) (by omega) (by omega) H13.out).mono ?_
  rintro e w14 ⟨rfl, rfl⟩
  rw [← HN.out]
  go_wp2_with fail
  go_ret
  exact ⟨rfl, B13⟩
end Go.Proofs.YtpbijohdnocleaaDoor

/- The program's MoveRegion. Conditions: the elements' cells are in memory; the variables that regions and transforms read hold their tables. -/
namespace Go.Proofs.YtpbijohdnocleaaDoor
open Go.RowKit Go.Shelf
set_option linter.unusedVariables false
set_option linter.unusedSimpArgs false

theorem own_cap' {w : World} {B n c : Nat} {a : Option Addr} {xs : List Value} (h : w.ownsRow B 36 4 (.slice a n c) n xs) : n ≤ c := by
  rcases h.2 with ⟨e, h0⟩ | ⟨g, cap, cur, e, _, _, h3, _⟩
  · omega
  · cases e
    exact h3
theorem covB_congr {P Q R S P' Q' R' S' : Nat → Int} (x y : Int) : ∀ n, (∀ i, i < n → P i = P' i ∧ Q i = Q' i ∧ R i = R' i ∧ S i = S' i) → covB P Q R S x y n = covB P' Q' R' S' x y n
  | 0, _ => rfl
  | n + 1, h => by
    obtain ⟨h1, h2, h3, h4⟩ := h n (by omega)
    rw [covB, covB, covB_congr x y n (fun i hi => h i (by omega)), h1, h2, h3, h4]
theorem allV_congr {P Q R S P' Q' R' S' : Nat → Int} : ∀ n, (∀ i, i < n → P i = P' i ∧ Q i = Q' i ∧ R i = R' i ∧ S i = S' i) → allV P Q R S n = allV P' Q' R' S' n
  | 0, _ => rfl
  | n + 1, h => by
    obtain ⟨h1, h2, h3, h4⟩ := h n (by omega)
    rw [allV_succ, allV_succ, allV_congr n (fun i hi => h i (by omega)), h1, h2, h3, h4]
theorem listR_fun (P Q R S : Nat → Int) (n : Nat) : ∀ i, i < n → pA (listR P Q R S n) i = P i ∧ pB (listR P Q R S n) i = Q i ∧ pC (listR P Q R S n) i = R i ∧ pD (listR P Q R S n) i = S i := fun i hi => by
  have h := listR_getD P Q R S n i hi
  unfold pA pB pC pD
  rw [h]
  exact ⟨rfl, rfl, rfl, rfl⟩
/-- The region of the list that P, Q, R, S spell. -/
theorem roL_listR (P Q R S : Nat → Int) (n : Nat) (hn : n ≤ 3200) (hv : allV P Q R S n = true) : roL (pA (listR P Q R S n)) (pB (listR P Q R S n)) (pC (listR P Q R S n)) (pD (listR P Q R S n)) n = canonL (covF P Q R S n) ∧ okV (pA (listR P Q R S n)) (pB (listR P Q R S n)) (pC (listR P Q R S n)) (pD (listR P Q R S n)) n = true := by
  have hf := listR_fun P Q R S n
  have ho : okV (pA (listR P Q R S n)) (pB (listR P Q R S n)) (pC (listR P Q R S n)) (pD (listR P Q R S n)) n = true := by
    unfold okV
    rw [decide_eq_true hn, allV_congr n hf, hv]
    rfl
  refine ⟨?_, ho⟩
  unfold roL
  rw [if_pos ho]
  refine canonL_congr fun k _ => ?_
  unfold covF
  exact covB_congr _ _ n hf
theorem roL_imL {o x y : Int} {P Q R S : Nat → Int} {n : Nat} (hn : n ≤ 3200) (hv : imV o x y P Q R S n = true) : roL (pA (imL o x y P Q R S n)) (pB (imL o x y P Q R S n)) (pC (imL o x y P Q R S n)) (pD (imL o x y P Q R S n)) n = canonL (imF o x y P Q R S n) ∧ okV (pA (imL o x y P Q R S n)) (pB (imL o x y P Q R S n)) (pC (imL o x y P Q R S n)) (pD (imL o x y P Q R S n)) n = true := by
  unfold imV at hv
  unfold imL imF
  exact roL_listR (imA o x y P Q R S) (imB o x y P Q R S) (imC o x y P Q R S) (imD o x y P Q R S) n hn hv
theorem ro_img {o x y : Int} {P Q R S : Nat → Int} {n : Nat} (hn : n ≤ 3200) (hv : imV o x y P Q R S n = true) (hg : mgB o x y P Q R S n = true ∧ mgL o x y P Q R S n = if true = true then canonL (imF o x y P Q R S n) else []) :
    roL (pA (imL o x y P Q R S n)) (pB (imL o x y P Q R S n)) (pC (imL o x y P Q R S n)) (pD (imL o x y P Q R S n)) (imL o x y P Q R S n).length = mgL o x y P Q R S n ∧ okV (pA (imL o x y P Q R S n)) (pB (imL o x y P Q R S n)) (pC (imL o x y P Q R S n)) (pD (imL o x y P Q R S n)) (imL o x y P Q R S n).length = mgB o x y P Q R S n := by
  obtain ⟨g1, g2⟩ := hg
  rw [if_pos rfl] at g2
  rw [g1, g2, imL_len]
  exact roL_imL hn hv
theorem mvV_at_no {o x y a b c d : Int} (h : rvB (mr0 o x y a b c d) (mr1 o x y a b c d) (mr2 o x y a b c d) (mr3 o x y a b c d) = false) : mvV o x y a b c d = .tuple #[.agg #[.int .i64 0, .int .i64 0, .int .i64 0, .int .i64 0], .bool false] := mvV_no (by unfold mvB; rw [h, Bool.and_false, Bool.and_false])
theorem mvV_at_yes {o x y a b c d : Int} (ht : vldB o x y = true) (hr : rvB a b c d = true) (h : rvB (mr0 o x y a b c d) (mr1 o x y a b c d) (mr2 o x y a b c d) (mr3 o x y a b c d) = true) : mvV o x y a b c d = .tuple #[.agg #[.int .i64 (mr0 o x y a b c d), .int .i64 (mr1 o x y a b c d), .int .i64 (mr2 o x y a b c d), .int .i64 (mr3 o x y a b c d)], .bool true] := mvV_yes (by unfold mvB; rw [ht, hr, h]; rfl)
theorem mgL_of {o x y : Int} {P Q R S : Nat → Int} {n : Nat} {b : Bool} (ht : vldB o x y = true) (hok : okR P Q R S n = true) (hb : imV o x y P Q R S n = b) : mgB o x y P Q R S n = b ∧ mgL o x y P Q R S n = if b = true then canonL (imF o x y P Q R S n) else [] := by
  have e : mgB o x y P Q R S n = b := by unfold mgB; rw [ht, hok, hb]; rfl
  exact ⟨e, by unfold mgL; rw [e]⟩

set_option maxRecDepth 100000 in
set_option maxHeartbeats 1000000 in
theorem moveRegion_any (o x y : Int) (m : Option Addr) (n cap : Nat) (P Q R S : Nat → Int) (w : World) (hn : n ≤ 1048576) (hcap : n ≤ cap) (hD : EnvW w) (hM : Mats w) (hR : RectsIs w.heap.size w m n P Q R S) :
    Calls Tryd.prog 45 #[.agg #[.int .i64 o, .int .i64 x, .int .i64 y], .slice m n cap] w fun e w' => LOwn2 w.heap.size (mgL o x y P Q R S n) (mgB o x y P Q R S n) e w' ∧ Below w.heap.size w w' := by
  obtain ⟨i0, hi, hz0, hz1, hz2⟩ := info_parts Tryd.infoR
  have hms := hM.size
  have hmz := hM.ne
  cases hv : vldB o x y with
  | false =>
    have e0 : mgL o x y P Q R S n = [] ∧ mgB o x y P Q R S n = false := by
      have e : mgB o x y P Q R S n = false := by unfold mgB; rw [hv]; rfl
      exact ⟨by unfold mgL; rw [e]; rfl, e⟩
    rw [e0.1, e0.2]
    clear e0
    go_enter Tryd.func45, Tryd.ntmps45
    go_wp2_with fail
    go_call (implValid_any) as e w1 ⟨rfl, bw1⟩
    obtain ⟨sw1, zw1, cw1, fw1⟩ := bcell bw1
    try simp only [World.size_alloc, World.size_setCell, World.size_drew] at sw1
    try have lw1_w_0 : w.heap.size < w1.heap.size := by omega
    try have lw1_w_1 : w.heap.size + 1 < w1.heap.size := by omega
    try have lw1_w_2 : w.heap.size + 1 + 1 < w1.heap.size := by omega
    try have lw1_w_3 : w.heap.size + 1 + 1 + 1 < w1.heap.size := by omega
    try have lw1_w_4 : w.heap.size + 1 + 1 + 1 + 1 < w1.heap.size := by omega
    try have lw1_w_5 : w.heap.size + 1 + 1 + 1 + 1 + 1 < w1.heap.size := by omega
    try have lw1_w_6 : w.heap.size + 1 + 1 + 1 + 1 + 1 + 1 < w1.heap.size := by omega
    rw [hv]
    go_wp2_with fail
    exact bodyPost_ret (v := .tuple #[.slice none 0 0, .bool false]) (by simp [*, results, Tryd.results45, go_sem]) rfl ⟨⟨none, 0, rfl, .inl rfl⟩, by (repeat (first | (with_reducible exact Below.refl _ _) | (with_reducible refine Ext.drewN ?_ _) | (with_reducible refine Below.drew ?_) | (with_reducible refine Ext.alloc ?_ _) | (with_reducible refine Ext.setCell ?_ (by simp; try omega) _) | (with_reducible refine Ext.trans ?_ (by assumption)) | (with_reducible assumption) | exact Below.refl _ _))⟩
  | true =>
    cases hok : okR P Q R S n with
    | false =>
      have e0 : mgL o x y P Q R S n = [] ∧ mgB o x y P Q R S n = false := by
        have e : mgB o x y P Q R S n = false := by unfold mgB; rw [hok, Bool.false_and, Bool.and_false]
        exact ⟨by unfold mgL; rw [e]; rfl, e⟩
      rw [e0.1, e0.2]
      clear e0
      go_enter Tryd.func45, Tryd.ntmps45
      go_wp2_with fail
      go_call (implValid_any) as e w1 ⟨rfl, bw1⟩
      obtain ⟨sw1, zw1, cw1, fw1⟩ := bcell bw1
      try simp only [World.size_alloc, World.size_setCell, World.size_drew] at sw1
      try have lw1_w_0 : w.heap.size < w1.heap.size := by omega
      try have lw1_w_1 : w.heap.size + 1 < w1.heap.size := by omega
      try have lw1_w_2 : w.heap.size + 1 + 1 < w1.heap.size := by omega
      try have lw1_w_3 : w.heap.size + 1 + 1 + 1 < w1.heap.size := by omega
      try have lw1_w_4 : w.heap.size + 1 + 1 + 1 + 1 < w1.heap.size := by omega
      try have lw1_w_5 : w.heap.size + 1 + 1 + 1 + 1 + 1 < w1.heap.size := by omega
      try have lw1_w_6 : w.heap.size + 1 + 1 + 1 + 1 + 1 + 1 < w1.heap.size := by omega
      rw [hv]
      go_wp2_with fail
      go_call (isRegion_any m n cap P Q R S _ hn hcap (hD.ext (by (repeat (first | (with_reducible exact Below.refl _ _) | (with_reducible refine Ext.drewN ?_ _) | (with_reducible refine Below.drew ?_) | (with_reducible refine Ext.alloc ?_ _) | (with_reducible refine Ext.setCell ?_ (by simp; try omega) _) | (with_reducible refine Ext.trans ?_ (by assumption)) | (with_reducible assumption) | exact Below.refl _ _)))) (hR.ext (by (repeat (first | (with_reducible exact Below.refl _ _) | (with_reducible refine Ext.drewN ?_ _) | (with_reducible refine Below.drew ?_) | (with_reducible refine Ext.alloc ?_ _) | (with_reducible refine Ext.setCell ?_ (by simp; try omega) _) | (with_reducible refine Ext.trans ?_ (by assumption)) | (with_reducible assumption) | exact Below.refl _ _))))) as e w2 ⟨rfl, bw2⟩
      obtain ⟨sw2, zw2, cw2, fw2⟩ := bcell bw2
      try simp only [World.size_alloc, World.size_setCell, World.size_drew] at sw2
      try have lw2_w_0 : w.heap.size < w2.heap.size := by omega
      try have lw2_w_1 : w.heap.size + 1 < w2.heap.size := by omega
      try have lw2_w_2 : w.heap.size + 1 + 1 < w2.heap.size := by omega
      try have lw2_w_3 : w.heap.size + 1 + 1 + 1 < w2.heap.size := by omega
      try have lw2_w_4 : w.heap.size + 1 + 1 + 1 + 1 < w2.heap.size := by omega
      try have lw2_w_5 : w.heap.size + 1 + 1 + 1 + 1 + 1 < w2.heap.size := by omega
      try have lw2_w_6 : w.heap.size + 1 + 1 + 1 + 1 + 1 + 1 < w2.heap.size := by omega
      try have lw2_w1_0 : w1.heap.size < w2.heap.size := by omega
      try have lw2_w1_1 : w1.heap.size + 1 < w2.heap.size := by omega
      try have lw2_w1_2 : w1.heap.size + 1 + 1 < w2.heap.size := by omega
      try have lw2_w1_3 : w1.heap.size + 1 + 1 + 1 < w2.heap.size := by omega
      try have lw2_w1_4 : w1.heap.size + 1 + 1 + 1 + 1 < w2.heap.size := by omega
      try have lw2_w1_5 : w1.heap.size + 1 + 1 + 1 + 1 + 1 < w2.heap.size := by omega
      try have lw2_w1_6 : w1.heap.size + 1 + 1 + 1 + 1 + 1 + 1 < w2.heap.size := by omega
      rw [hok]
      go_wp2_with fail
      exact bodyPost_ret (v := .tuple #[.slice none 0 0, .bool false]) (by simp [*, results, Tryd.results45, go_sem]) rfl ⟨⟨none, 0, rfl, .inl rfl⟩, by (repeat (first | (with_reducible exact Below.refl _ _) | (with_reducible refine Ext.drewN ?_ _) | (with_reducible refine Below.drew ?_) | (with_reducible refine Ext.alloc ?_ _) | (with_reducible refine Ext.setCell ?_ (by simp; try omega) _) | (with_reducible refine Ext.trans ?_ (by assumption)) | (with_reducible assumption) | exact Below.refl _ _))⟩
    | true =>
      have hlen : n ≤ 3200 := okR_len hok
      have HALL := Lib.hid (okR_all hok)
      have HV := Lib.hid hv
      have HMG := Lib.hid fun b => mgL_of (o := o) (x := x) (y := y) (P := P) (Q := Q) (R := R) (S := S) (n := n) (b := b) hv hok
      go_enter Tryd.func45, Tryd.ntmps45
      go_wp2_with fail
      go_call (implValid_any) as e w1 ⟨rfl, bw1⟩
      obtain ⟨sw1, zw1, cw1, fw1⟩ := bcell bw1
      try simp only [World.size_alloc, World.size_setCell, World.size_drew] at sw1
      try have lw1_w_0 : w.heap.size < w1.heap.size := by omega
      try have lw1_w_1 : w.heap.size + 1 < w1.heap.size := by omega
      try have lw1_w_2 : w.heap.size + 1 + 1 < w1.heap.size := by omega
      try have lw1_w_3 : w.heap.size + 1 + 1 + 1 < w1.heap.size := by omega
      try have lw1_w_4 : w.heap.size + 1 + 1 + 1 + 1 < w1.heap.size := by omega
      try have lw1_w_5 : w.heap.size + 1 + 1 + 1 + 1 + 1 < w1.heap.size := by omega
      try have lw1_w_6 : w.heap.size + 1 + 1 + 1 + 1 + 1 + 1 < w1.heap.size := by omega
      rw [hv]
      go_wp2_with fail
      go_call (isRegion_any m n cap P Q R S _ hn hcap (hD.ext (by (repeat (first | (with_reducible exact Below.refl _ _) | (with_reducible refine Ext.drewN ?_ _) | (with_reducible refine Below.drew ?_) | (with_reducible refine Ext.alloc ?_ _) | (with_reducible refine Ext.setCell ?_ (by simp; try omega) _) | (with_reducible refine Ext.trans ?_ (by assumption)) | (with_reducible assumption) | exact Below.refl _ _)))) (hR.ext (by (repeat (first | (with_reducible exact Below.refl _ _) | (with_reducible refine Ext.drewN ?_ _) | (with_reducible refine Below.drew ?_) | (with_reducible refine Ext.alloc ?_ _) | (with_reducible refine Ext.setCell ?_ (by simp; try omega) _) | (with_reducible refine Ext.trans ?_ (by assumption)) | (with_reducible assumption) | exact Below.refl _ _))))) as e w2 ⟨rfl, bw2⟩
      obtain ⟨sw2, zw2, cw2, fw2⟩ := bcell bw2
      try simp only [World.size_alloc, World.size_setCell, World.size_drew] at sw2
      try have lw2_w_0 : w.heap.size < w2.heap.size := by omega
      try have lw2_w_1 : w.heap.size + 1 < w2.heap.size := by omega
      try have lw2_w_2 : w.heap.size + 1 + 1 < w2.heap.size := by omega
      try have lw2_w_3 : w.heap.size + 1 + 1 + 1 < w2.heap.size := by omega
      try have lw2_w_4 : w.heap.size + 1 + 1 + 1 + 1 < w2.heap.size := by omega
      try have lw2_w_5 : w.heap.size + 1 + 1 + 1 + 1 + 1 < w2.heap.size := by omega
      try have lw2_w_6 : w.heap.size + 1 + 1 + 1 + 1 + 1 + 1 < w2.heap.size := by omega
      try have lw2_w1_0 : w1.heap.size < w2.heap.size := by omega
      try have lw2_w1_1 : w1.heap.size + 1 < w2.heap.size := by omega
      try have lw2_w1_2 : w1.heap.size + 1 + 1 < w2.heap.size := by omega
      try have lw2_w1_3 : w1.heap.size + 1 + 1 + 1 < w2.heap.size := by omega
      try have lw2_w1_4 : w1.heap.size + 1 + 1 + 1 + 1 < w2.heap.size := by omega
      try have lw2_w1_5 : w1.heap.size + 1 + 1 + 1 + 1 + 1 < w2.heap.size := by omega
      try have lw2_w1_6 : w1.heap.size + 1 + 1 + 1 + 1 + 1 + 1 < w2.heap.size := by omega
      rw [hok]
      go_wp2_with fail
      have BX0 : Hid (BoxT w2 w.heap.size o x y) := Lib.hid ⟨keepC bw2 (keepC bw1 (by simp [go_sem])), keepC bw2 (keepC bw1 (by simp [go_sem])), keepC bw2 (keepC bw1 (by simp [go_sem]))⟩
      have B2 : Below w.heap.size w w2 := by (repeat (first | (with_reducible exact Below.refl _ _) | (with_reducible refine Ext.drewN ?_ _) | (with_reducible refine Below.drew ?_) | (with_reducible refine Ext.alloc ?_ _) | (with_reducible refine Ext.setCell ?_ (by simp; try omega) _) | (with_reducible refine Ext.trans ?_ (by assumption)) | (with_reducible assumption) | exact Below.refl _ _))
      have l2 : w.heap.size < w2.heap.size := by have h8 := bw1.size; have h9 := bw2.size; simp at h8; omega
      clear bw1 bw2 zw1 cw1 fw1 zw2 cw2 fw2
      go_loopw [6, 21] (fun v s9 wr => ∃ i : Nat, i ≤ n ∧ s9 = .int .i64 (i : Nat) ∧ Hid (wr.ownsRow (w.heap.size + 1) 36 4 v (imL o x y P Q R S i).length (recCells (imL o x y P Q R S i))) ∧ Below w.heap.size w wr ∧ w.heap.size < wr.heap.size ∧ Hid (BoxT wr w.heap.size o x y) ∧ Hid (imV o x y P Q R S i = true)) (fun _ s9 _ => n - (intOf s9).toNat)
      case atStart => exact ⟨0, by omega, rfl, Lib.hid (World.ownsRow_nil _ _ _ _), B2, l2, BX0, Lib.hid rfl⟩
      case round =>
        obtain ⟨i, hil, rfl, HO, hW, hsz, HBX, HA⟩ := hrel
        rename_i v5 _
        by_cases hlt : i < n
        · obtain ⟨b1, o1, rfl, hb1, c0, c1, c2, c3⟩ := hR.below hW i hlt
          have q1 : ((i : Nat) : Int) < (n : Int) := by omega
          have q0 : (0 : Int) ≤ ((i : Nat) : Int) := by omega
          obtain ⟨x0, x1, x2⟩ := HBX.out
          have hll := imL_len o x y P Q R S i
          cases hvm : rvB (mr0 o x y (P i) (Q i) (R i) (S i)) (mr1 o x y (P i) (Q i) (R i) (S i)) (mr2 o x y (P i) (Q i) (R i) (S i)) (mr3 o x y (P i) (Q i) (R i) (S i)) with
          | false =>
            have HN := Lib.hid (HMG.out false (imV_f hlt hvm))
            have HIX := Lib.hid (mvV_at_no hvm)
            clear hvm
            go_wp2_with (first | (go_at_call 93; refine (implMoveRect_any _ _ _ _ _ _ _ _ (hD.chip.ext (by (repeat (first | (with_reducible exact Below.refl _ _) | (with_reducible refine Ext.drewN ?_ _) | (with_reducible refine Below.drew ?_) | (with_reducible refine Ext.alloc ?_ _) | (with_reducible refine Ext.setCell ?_ (by simp; try omega) _) | (with_reducible refine Ext.trans ?_ (by assumption)) | (with_reducible assumption) | exact Below.refl _ _)))) (hM.below (by (repeat (first | (with_reducible exact Below.refl _ _) | (with_reducible refine Ext.drewN ?_ _) | (with_reducible refine Below.drew ?_) | (with_reducible refine Ext.alloc ?_ _) | (with_reducible refine Ext.setCell ?_ (by simp; try omega) _) | (with_reducible refine Ext.trans ?_ (by assumption)) | (with_reducible assumption) | exact Below.refl _ _))) hms)).mono ?_; rintro e v1 ⟨rfl, bv1⟩; rw [HIX.out]))
            have bq : Below wr.heap.size wr v1 := by (repeat (first | (with_reducible exact Below.refl _ _) | (with_reducible refine Ext.drewN ?_ _) | (with_reducible refine Below.drew ?_) | (with_reducible refine Ext.alloc ?_ _) | (with_reducible refine Ext.setCell ?_ (by simp; try omega) _) | (with_reducible refine Ext.trans ?_ (by assumption)) | (with_reducible assumption) | exact Below.refl _ _))
            have bq2 := bq.alloc bq.size (.cells #[.int .i64 0, .int .i64 0, .int .i64 0, .int .i64 0] 36)
            exact bodyPost_ret (v := .tuple #[.slice none 0 0, .bool false]) (by simp [results, Tryd.results45, go_sem]) rfl ⟨⟨none, 0, by rw [HN.out.1, HN.out.2]; rfl, .inl (by rw [HN.out.2]; rfl)⟩, hW.trans (bq2.mono (by omega))⟩
          | true =>
            have HS := Lib.hid (imL_succ o x y P Q R S i)
            have HIX := Lib.hid (mvV_at_yes HV.out (HALL.out i hlt) hvm)
            have HA1 : Hid (imV o x y P Q R S (i + 1) = true) := Lib.hid (by unfold imV; rw [allV_succ]; exact Bool.and_eq_true_iff.2 ⟨HA.out, hvm⟩)
            clear hvm HA
            revert HS HIX
            generalize mr0 o x y (P i) (Q i) (R i) (S i) = v0
            generalize mr1 o x y (P i) (Q i) (R i) (S i) = v1
            generalize mr2 o x y (P i) (Q i) (R i) (S i) = v2
            generalize mr3 o x y (P i) (Q i) (R i) (S i) = v3
            intro HS HIX
            go_upto_region 10 with (first | (go_at_call 93; refine (implMoveRect_any _ _ _ _ _ _ _ _ (hD.chip.ext (by (repeat (first | (with_reducible exact Below.refl _ _) | (with_reducible refine Ext.drewN ?_ _) | (with_reducible refine Below.drew ?_) | (with_reducible refine Ext.alloc ?_ _) | (with_reducible refine Ext.setCell ?_ (by simp; try omega) _) | (with_reducible refine Ext.trans ?_ (by assumption)) | (with_reducible assumption) | exact Below.refl _ _)))) (hM.below (by (repeat (first | (with_reducible exact Below.refl _ _) | (with_reducible refine Ext.drewN ?_ _) | (with_reducible refine Below.drew ?_) | (with_reducible refine Ext.alloc ?_ _) | (with_reducible refine Ext.setCell ?_ (by simp; try omega) _) | (with_reducible refine Ext.trans ?_ (by assumption)) | (with_reducible assumption) | exact Below.refl _ _))) hms)).mono ?_; rintro e u1 ⟨rfl, bu1⟩; rw [HIX.out]))
            have bq : Below wr.heap.size wr u1 := by (repeat (first | (with_reducible exact Below.refl _ _) | (with_reducible refine Ext.drewN ?_ _) | (with_reducible refine Below.drew ?_) | (with_reducible refine Ext.alloc ?_ _) | (with_reducible refine Ext.setCell ?_ (by simp; try omega) _) | (with_reducible refine Ext.trans ?_ (by assumption)) | (with_reducible assumption) | exact Below.refl _ _))
            obtain ⟨wz, hwz⟩ : ∃ wz, wz = u1.alloc (.cells #[.int .i64 v0, .int .i64 v1, .int .i64 v2, .int .i64 v3] 36) := ⟨_, rfl⟩
            have bz : Below wr.heap.size wr wz := by rw [hwz]; exact bq.alloc bq.size _
            have m0 : wz.cell? ⟨u1.heap.size, 0, none⟩ = some (.int .i64 v0) := by rw [hwz]; simp [go_sem]
            have m1 : wz.cell? ⟨u1.heap.size, 1, none⟩ = some (.int .i64 v1) := by rw [hwz]; simp [go_sem]
            have m2 : wz.cell? ⟨u1.heap.size, 2, none⟩ = some (.int .i64 v2) := by rw [hwz]; simp [go_sem]
            have m3 : wz.cell? ⟨u1.heap.size, 3, none⟩ = some (.int .i64 v3) := by rw [hwz]; simp [go_sem]
            have O2 := Lib.hid (own_keep HO.out bz)
            have X2 := Lib.hid (HBX.out.keep bz hsz)
            have sz := bz.size
            rw [← hwz]
            clear hwz bq bu1 HO HBX x0 x1 x2 c0 c1 c2 c3
            go_wp2_with (at_builtin; refine wpList_append_own _ rfl _ _ 25 rfl (w.heap.size + 1) 36 i0 (.agg #[.int .i64 0, .int .i64 0, .int .i64 0, .int .i64 0]) 4 32 Tryd.underlying25 hi hz0 hz1 hz2 rfl (by decide) _ _ _ rfl (O2.out.alloc _) ⟨wz.heap.size, 0, none⟩ 1 1 [.int .i64 v0, .int .i64 v1, .int .i64 v2, .int .i64 v3] rfl rfl (World.news_of_block (cs := #[.int .i64 v0, .int .i64 v1, .int .i64 v2, .int .i64 v3]) (t := 36) (fr := (0, 0)) (heap_alloc_new wz _)) (by simp [Value.oneCell']) (by unfold maxLen; omega) (by omega) (by simp; omega) ?_; intro v' w4 hown4 hgrow hnil)
            have Bx : Below (w.heap.size + 1) wz w4 := ((Below.refl (w.heap.size + 1) wz).alloc (by omega) _).grown hgrow (by simp; omega) (fun k hk => (O2.out.lt k hk).1)
            have sx := Bx.size
            have O4 : Hid (w4.ownsRow (w.heap.size + 1) 36 4 v' (imL o x y P Q R S (i + 1)).length (recCells (imL o x y P Q R S (i + 1)))) := Lib.hid (by rw [HS.out, List.length_append, recCells_snoc]; exact hown4)
            clear hown4 hgrow hnil
            go_roundw
            case rel => exact ⟨i + 1, by omega, by go_num, O4, hW.trans ((bz.mono (by omega)).trans (Bx.mono (by omega))), by omega, Lib.hid (X2.out.keep Bx (by omega)), HA1⟩
            case measure => simp [intOf]; omega
        · have q1 : ¬ ((i : Nat) : Int) < (n : Int) := by omega
          obtain rfl : n = i := by omega
          have hl9 := imL_len o x y P Q R S n
          have HRO := ro_img hlen HA.out (HMG.out true HA.out)
          obtain ⟨l, hl⟩ : ∃ l, l = imL o x y P Q R S n := ⟨_, rfl⟩
          rw [← hl] at HO hl9 HRO
          have HRO := Lib.hid HRO
          obtain ⟨a9, c9, rfl, h9⟩ := ownsL_own HO.out
          have R9 := Lib.hid h9.rects
          have hc9 : Hid (l.length ≤ c9) := Lib.hid (own_cap' HO.out)
          have hl10 : l.length ≤ 1048576 := by omega
          clear h9 HO hl hl9
          go_wp2_with (first | (go_at_call 25; refine (regionOf_any a9 l.length c9 (pA l) (pB l) (pC l) (pD l) _ hl10 hc9.out (hD.ext hW) R9.out).mono ?_; rintro e w5 ⟨⟨a5, c5, rfl, h5⟩, bw5⟩; rw [HRO.out.1] at h5 ⊢; rw [HRO.out.2]; have H5 := Lib.hid h5; clear h5))
          exact bodyPost_ret (v := .tuple #[.slice a5 (mgL o x y P Q R S n).length c5, .bool (mgB o x y P Q R S n)]) (by simp [results, Tryd.results45, go_sem]) rfl ⟨⟨a5, c5, rfl, H5.out.mono hW.size⟩, Ext.trans hW bw5⟩
theorem implMoveRegion : ImplMoveRegion := fun o x y m n cap P Q R S w hn hcap hD hM hR => moveRegion_any o x y m n cap P Q R S w hn hcap hD hM hR
theorem walkMoveRegion' (o x y : Int) (a : Option Addr) (n c1 : Nat) (w : World) (hn : n ≤ maxLen) (hPe : ∃ P Q R S, RectsIs w.heap.size w a n P Q R S) (hDb : EnvW w) (hM : Mats w) :
    Calls Tryd.prog 10 #[.agg #[.int .i64 o, .int .i64 x, .int .i64 y], .slice a n c1] w fun e w' => e = .returned (.bool true) ∧ Below w.heap.size w w' :=
  walkMoveRegion implMoveRegion o x y a n c1 w hDb hM hn hPe
end Go.Proofs.YtpbijohdnocleaaDoor
