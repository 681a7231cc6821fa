/- Contracts of the model's turns and moves. Conditions: the orientation is in 0..7 and the coordinates are small. -/
import Derived.Test.YtfbalpkjcfdakaaGreatDoorQB
import Derived.Lib.LaidTab
import Derived.Lib.LaidU8
import Derived.LaidMore
import Derived.Lay
import Derived.Stop.Joined
import Derived.Deep.RegionHeld3
import Derived.Deep.DeepCutAuto
import Derived.Deep.DrawnRows
import Derived.ChangeKeysEq
import Derived.Lib.Hide
import Derived.Laws.AppendOwn
import Derived.OwnWalk
import Derived.StillTailTactics
import Derived.IntWalk
namespace Go.Proofs.YtfbalpkjcfdakaaGreatDoor
open Go.RowKit
set_option linter.unusedVariables false
set_option linter.unusedSimpArgs false

def tX (o x y : Int) : Int := if o = 0 then x else if o = 1 then -y else if o = 2 then -x else if o = 3 then y else if o = 4 then x else if o = 5 then y else if o = 6 then -x else -y
def tY (o x y : Int) : Int := if o = 0 then y else if o = 1 then x else if o = 2 then -y else if o = 3 then -x else if o = 4 then -y else if o = 5 then x else if o = 6 then y else -x


def rX (j : Nat) (x y : Int) : Int := match j with | 0 => x | 1 => -y | 2 => -x | _ => y
def rY (j : Nat) (x y : Int) : Int := match j with | 0 => y | 1 => x | 2 => -y | _ => -x

end Go.Proofs.YtfbalpkjcfdakaaGreatDoor

/- Contracts of the model's moves of points and cells, of the conversions and comparisons of the laws. -/
namespace Go.Proofs.YtfbalpkjcfdakaaGreatDoor
open Go.RowKit
set_option linter.unusedVariables false
set_option linter.unusedSimpArgs false

def onB (x y : Int) : Bool := inB x (-40) 40 && inB y (-40) 40
def ucB (x y : Int) : Bool := inB x (-40) 39 && inB y (-40) 39
theorem onB_t {x y : Int} (h : onB x y = true) : (-40 ≤ x ∧ x ≤ 40) ∧ (-40 ≤ y ∧ y ≤ 40) := by
  unfold onB at h; simp only [Bool.and_eq_true] at h; exact ⟨inB_t h.1, inB_t h.2⟩
theorem ucB_t {x y : Int} (h : ucB x y = true) : (-40 ≤ x ∧ x ≤ 39) ∧ (-40 ≤ y ∧ y ≤ 39) := by
  unfold ucB at h; simp only [Bool.and_eq_true] at h; exact ⟨inB_t h.1, inB_t h.2⟩

theorem t_bd (o x y B : Int) (hx : -B ≤ x) (hx' : x ≤ B) (hy : -B ≤ y) (hy' : y ≤ B) : (-B ≤ tX o x y ∧ tX o x y ≤ B) ∧ (-B ≤ tY o x y ∧ tY o x y ≤ B) := by
  unfold tX tY
  refine ⟨?_, ?_⟩ <;> (repeat' split) <;> omega

def eqPB (a b c d : Int) : Bool := a == c && b == d
theorem eqPoint_any (a b c d : Int) (w : World) : Calls Tryz.prog 102 #[.agg #[.int .i64 a, .int .i64 b], .agg #[.int .i64 c, .int .i64 d]] w fun e w' => e = .returned (.bool (eqPB a b c d)) ∧ Below w.heap.size w w' := by
  by_cases h1 : a = c
  · by_cases h2 : b = d
    all_goals
      go_enter Tryz.func102, Tryz.ntmps102
      go_wp2
      go_ret
      exact ⟨ret_bool (by simp [eqPB, h1, h2]), by go_grown⟩
  · go_enter Tryz.func102, Tryz.ntmps102
    go_wp2
    go_ret
    exact ⟨ret_bool (by simp [eqPB, h1]), by go_grown⟩

def eqTB (a b c d e f : Int) : Bool := a == d && b == e && c == f
theorem l01OnChip_any (x y : Int) (w : World) : Calls Tryz.prog 115 #[.agg #[.int .i64 x, .int .i64 y]] w fun e w' => e = .returned (.bool (onB x y)) ∧ Below w.heap.size w w' := by
  by_cases h1 : inB x (-40) 40 = true
  all_goals
    go_enter Tryz.func115, Tryz.ntmps115
    go_wp2_with (go_at_call 82; go_call l01In_any as e w' ⟨rfl, rfl⟩)
    go_ret
    exact ⟨ret_bool (by simp [onB, h1]), by go_grown⟩

theorem isOnChip_any (x y : Int) (w : World) : Calls Tryz.prog 126 #[.agg #[.int .i64 x, .int .i64 y]] w fun e w' => e = .returned (.bool (onB x y)) ∧ Below w.heap.size w w' := by
  by_cases h1 : inB x (-40) 40 = true
  all_goals
    go_enter Tryz.func126, Tryz.ntmps126
    go_wp2_with (go_at_call 84; go_call inRange_any as e w' ⟨rfl, rfl⟩)
    go_ret
    exact ⟨ret_bool (by simp [onB, h1]), by go_grown⟩

def mpB (o x y a b : Int) : Bool := vldB o x y && onB a b
def mpX (o x y a b : Int) : Int := if mpB o x y a b = true then tX o a b + x else 0
def mpY (o x y a b : Int) : Int := if mpB o x y a b = true then tY o a b + y else 0
/-- What MovePoint answers. -/
def mpV (o x y a b : Int) : Value := .tuple #[.agg #[.int .i64 (mpX o x y a b), .int .i64 (mpY o x y a b)], .bool (mpB o x y a b)]
theorem mpV_yes {o x y a b : Int} (h1 : vldB o x y = true) (h2 : onB a b = true) : mpV o x y a b = .tuple #[.agg #[.int .i64 (tX o a b + x), .int .i64 (tY o a b + y)], .bool true] := by
  simp [mpV, mpX, mpY, mpB, h1, h2]
theorem mpV_no {o x y a b : Int} (h : mpB o x y a b = false) : mpV o x y a b = .tuple #[.agg #[.int .i64 0, .int .i64 0], .bool false] := by
  simp [mpV, mpX, mpY, h]
end Go.Proofs.YtfbalpkjcfdakaaGreatDoor

/- The table of orientations in memory, out of what the row lists: the 32 cells of the variable orientationMatrices. -/
namespace Go.Proofs.YtfbalpkjcfdakaaGreatDoor
open Go.RowKit Go.Lib

def matL : List Int := [1, 0, 0, 1, 0, -1, 1, 0, -1, 0, 0, -1, 0, 1, -1, 0, 1, 0, 0, -1, 0, 1, 1, 0, -1, 0, 0, 1, 0, -1, -1, 0]
/-- The variable's cells hold the table. -/
def Mats (w : World) : Prop := ∀ i, i < 32 → w.cell? ⟨0, i, none⟩ = some (.int .i64 (matL.getD i 0))

theorem mats_of_reads {W : World} (h : VarReads Tryz.prog W "loop.example/g00890/impl.orientationMatrices" Rows.laid_loop_example_g00890_impl_orientationMatrices) : Mats W := by
  obtain ⟨g, t, cs, fuel, p, hg, hty, hvar, hd⟩ := h
  obtain rfl := Option.some.inj ((show Tryz.prog.globalNamed "loop.example/g00890/impl.orientationMatrices" = some 0 by kernel_rfl).symm.trans hg)
  obtain rfl := Option.some.inj ((show (Tryz.prog.globals[0]?).map (·.type) = some 219 by kernel_rfl).symm.trans hty)
  have c4 : Tryz.prog.cellsOf 218 = 4 := by kernel_rfl
  have c1 : Tryz.prog.cellsOf 2 = 1 := by kernel_rfl
  have key : ∀ i, i < 8 → ∀ j, j < 4 → W.cell? ⟨0, i * 4 + j, none⟩ = some (.int .i64 (matL.getD (i * 4 + j) 0)) := by
    intro i hi j hj
    obtain ⟨f', d, q, hds, hr⟩ := array_elem Tryz.underlying219 hd i hi
    rw [c4] at hr
    have hdd : d = tabData .i64 [matL.getD (i * 4) 0, matL.getD (i * 4 + 1) 0, matL.getD (i * 4 + 2) 0, matL.getD (i * 4 + 3) 0] := by
      rcases (show i = 0 ∨ i = 1 ∨ i = 2 ∨ i = 3 ∨ i = 4 ∨ i = 5 ∨ i = 6 ∨ i = 7 by omega) with rfl | rfl | rfl | rfl | rfl | rfl | rfl | rfl <;> exact (Option.some.inj hds).symm
    rw [hdd] at hr
    have hcs := cells_of_tab Tryz.underlying218 Tryz.underlying2 c1 c4 hr
    have h2 : cs.toList[i * 4 + j]? = some (.int .i64 (matL.getD (i * 4 + j) 0)) := by
      have h3 : ((cs.toList.drop (i * 4)).take 4)[j]? = cs.toList[i * 4 + j]? := by
        rw [List.getElem?_take_of_lt hj, List.getElem?_drop]
      rw [← h3, hcs]
      rcases (show j = 0 ∨ j = 1 ∨ j = 2 ∨ j = 3 by omega) with rfl | rfl | rfl | rfl <;> rfl
    rw [World.var?_cell hg hvar]
    simpa using h2
  intro i hi
  have := key (i / 4) (by omega) (i % 4) (by omega)
  rw [show i / 4 * 4 + i % 4 = i by omega] at this
  exact this

theorem mats_of_laid {W : World} {laid : List (String × DataW Unit)} (h : laidMetH Tryz.prog laid W) (hp : (laid.all fun x => x.2.handleName?.isNone) = true)
    (hm : ("loop.example/g00890/impl.orientationMatrices", Rows.laid_loop_example_g00890_impl_orientationMatrices) ∈ laid) : Mats W := by
  rw [MakeChecks.laidMetH_plain _ _ _ hp] at h
  exact mats_of_reads (laidMet.reads h hm)

theorem Mats.below {W W' : World} (h : Mats W) (hb : Below W.heap.size W W') (hz : 0 < W.heap.size) : Mats W' := fun i hi => (hb.cell (p := ⟨0, i, none⟩) hz).trans (h i hi)
theorem Mats.size {W : World} (h : Mats W) : 0 < W.heap.size := by
  have := h 0 (by omega)
  unfold World.cell? at this
  split at this
  · rename_i heq
    exact (Array.getElem?_eq_some_iff.1 heq).1
  · cases this
theorem Mats.ne {W : World} (h : Mats W) : ¬ W.heap = #[] := fun e => by have := h.size; rw [e] at this; simp at this
end Go.Proofs.YtfbalpkjcfdakaaGreatDoor

/- Contracts of the program's matrices and orientations. Condition: the variable orientationMatrices holds its table. -/
namespace Go.Proofs.YtfbalpkjcfdakaaGreatDoor
open Go.RowKit
set_option linter.unusedVariables false
set_option linter.unusedSimpArgs false
attribute [local go_sem ↓] Go.wp_at_zero Go.wp_at_succ


def mr (o : Int) (j : Nat) : Int := matL.getD (o.toNat * 4 + j) 0

theorem oct {o : Int} (h0 : 0 ≤ o) (h7 : o ≤ 7) : o = 0 ∨ o = 1 ∨ o = 2 ∨ o = 3 ∨ o = 4 ∨ o = 5 ∨ o = 6 ∨ o = 7 := by omega

set_option maxHeartbeats 4000000 in
theorem matImage_any (o x y : Int) (w : World) (h0 : 0 ≤ o) (h7 : o ≤ 7) (hx : -1000000 ≤ x) (hx' : x ≤ 1000000) (hy : -1000000 ≤ y) (hy' : y ≤ 1000000) :
    Calls Tryz.prog 175 #[.agg #[.int .i64 (mr o 0), .int .i64 (mr o 1), .int .i64 (mr o 2), .int .i64 (mr o 3)], .agg #[.int .i64 x, .int .i64 y]] w fun e w' => e = .returned (.agg #[.int .i64 (tX o x y), .int .i64 (tY o x y)]) ∧ Below w.heap.size w w' := by
  rcases oct h0 h7 with rfl | rfl | rfl | rfl | rfl | rfl | rfl | rfl
  all_goals
    simp only [mr, matL, tX, tY, Int.toNat_zero, Int.toNat_one, Int.reduceToNat, Nat.reduceMul, Nat.reduceAdd, List.getD_cons_succ, List.getD_cons_zero, Nat.zero_mul, Nat.one_mul, Nat.zero_add, Int.reduceEq, if_true, if_false, reduceIte]
    go_enter Tryz.func175, Tryz.ntmps175
    go_wp2_with fail
    refine bodyPost_ret (v := .agg #[.int .i64 _, .int .i64 _]) (by simp [*, results, Tryz.results175, go_sem]; exact ⟨rfl, rfl⟩) rfl ⟨?_, ?_⟩
    · refine ret_point ?_ ?_ <;> omega
    · (repeat (first | (with_reducible exact Below.refl _ _) | (with_reducible refine Ext.drewN ?_ _) | (with_reducible refine Below.drew ?_) | (with_reducible refine Ext.alloc ?_ _) | (with_reducible refine Ext.setCell ?_ (by simp; try omega) _) | (with_reducible refine Ext.trans ?_ (by assumption)) | (with_reducible assumption) | exact Below.refl _ _))

end Go.Proofs.YtfbalpkjcfdakaaGreatDoor

/- The program's orientations: looking a matrix up, composing, inverting, images. Condition: the variable orientationMatrices holds its table. -/
namespace Go.Proofs.YtfbalpkjcfdakaaGreatDoor
open Go.RowKit
set_option linter.unusedVariables false
set_option linter.unusedSimpArgs false
attribute [local go_sem ↓] Go.wp_at_zero Go.wp_at_succ

theorem mr_cell {w : World} (hM : Mats w) (k : Nat) (hk : k < 8) (j : Nat) (hj : j < 4) : w.cell? ⟨0, k * 4 + j, none⟩ = some (.int .i64 (mr k j)) := by
  have := hM (k * 4 + j) (by omega)
  simpa [mr] using this

theorem info_ex : ∃ i, Tryz.prog.info? 2 = some i := by
  have h : (Tryz.prog.info? 2).isSome = true := by kernel_rfl
  exact Option.isSome_iff_exists.1 h
theorem eqArr4 (a0 a1 a2 a3 b0 b1 b2 b3 : Int) (w : World) : (Op.equalIn 10000 218 (.agg #[.int .i64 a0, .int .i64 a1, .int .i64 a2, .int .i64 a3]) (.agg #[.int .i64 b0, .int .i64 b1, .int .i64 b2, .int .i64 b3])).run Tryz.prog w = .ok (a0 == b0 && (a1 == b1 && (a2 == b2 && a3 == b3))) w := by
  obtain ⟨i, hi⟩ := info_ex
  have c1 : Tryz.prog.cellsOf 2 = 1 := by kernel_rfl
  rw [run_equalIn_array w 9999 _ _ Tryz.underlying218 hi, c1]
  have r4 : List.range 4 = [0, 1, 2, 3] := rfl
  rw [r4]
  have hq : ∀ (a b : Int) (w : World), (Op.equalIn 9999 2 (.int .i64 a) (.int .i64 b)).run Tryz.prog w = .ok (a == b) w := fun a b w => run_equalIn_int w 9998 _ _ .i64 a b Tryz.underlying2
  have hp : ∀ (x0 x1 x2 x3 : Int) (w : World), (part 2 #[.int .i64 x0, .int .i64 x1, .int .i64 x2, .int .i64 x3] (0 * 1)).run Tryz.prog w = .ok (.int .i64 x0) w ∧ (part 2 #[.int .i64 x0, .int .i64 x1, .int .i64 x2, .int .i64 x3] (1 * 1)).run Tryz.prog w = .ok (.int .i64 x1) w ∧ (part 2 #[.int .i64 x0, .int .i64 x1, .int .i64 x2, .int .i64 x3] (2 * 1)).run Tryz.prog w = .ok (.int .i64 x2) w ∧ (part 2 #[.int .i64 x0, .int .i64 x1, .int .i64 x2, .int .i64 x3] (3 * 1)).run Tryz.prog w = .ok (.int .i64 x3) w :=
    fun _ _ _ _ _ => ⟨by kernel_rfl, by kernel_rfl, by kernel_rfl, by kernel_rfl⟩
  simp only [Op.eqItems, Sem.run_bind, (hp _ _ _ _ _).1, (hp _ _ _ _ _).2.1, (hp _ _ _ _ _).2.2.1, (hp _ _ _ _ _).2.2.2, Result.andThen_ok, hq, Sem.run_ite, Sem.run_pure]
  cases h0 : a0 == b0 <;> cases h1 : a1 == b1 <;> cases h2 : a2 == b2 <;> cases h3 : a3 == b3 <;> simp

theorem mr_eq : ∀ k o : Nat, k < 8 → o < 8 → (mr k 0 == mr o 0 && (mr k 1 == mr o 1 && (mr k 2 == mr o 2 && mr k 3 == mr o 3))) = decide (k = o) := by
  have h : ∀ k o : Fin 8, (mr k 0 == mr o 0 && (mr k 1 == mr o 1 && (mr k 2 == mr o 2 && mr k 3 == mr o 3))) = decide (k.1 = o.1) := by decide
  intro k o hk ho
  exact h ⟨k, hk⟩ ⟨o, ho⟩
end Go.Proofs.YtfbalpkjcfdakaaGreatDoor

/- The program's orientations: composing, inverting, images. Condition: the variable orientationMatrices holds its table. -/
namespace Go.Proofs.YtfbalpkjcfdakaaGreatDoor
open Go.RowKit
set_option linter.unusedVariables false
set_option linter.unusedSimpArgs false
attribute [local go_sem ↓] Go.wp_at_zero Go.wp_at_succ

/-- Orientation a first, then b. -/
def cmpO (a b : Nat) : Nat := if b < 4 then (if a < 4 then (a + b) % 4 else 4 + (a - 4 + b) % 4) else (if a < 4 then 4 + (b - 4 + (4 - a)) % 4 else (b - 4 + (8 - a)) % 4)
def invO (a : Nat) : Nat := if a < 4 then (4 - a) % 4 else a
theorem cmpO_lt : ∀ a b : Nat, a < 8 → b < 8 → cmpO a b < 8 := by
  intro a b ha hb; unfold cmpO; (repeat' split) <;> omega
theorem invO_lt : ∀ a : Nat, a < 8 → invO a < 8 := by
  intro a ha; unfold invO; split <;> omega
theorem mr_cmp : ∀ a b : Nat, a < 8 → b < 8 → tX b (mr a 0) (mr a 2) = mr (cmpO a b) 0 ∧ tX b (mr a 1) (mr a 3) = mr (cmpO a b) 1 ∧ tY b (mr a 0) (mr a 2) = mr (cmpO a b) 2 ∧ tY b (mr a 1) (mr a 3) = mr (cmpO a b) 3 := by
  have h : ∀ a b : Fin 8, tX b (mr a 0) (mr a 2) = mr (cmpO a b) 0 ∧ tX b (mr a 1) (mr a 3) = mr (cmpO a b) 1 ∧ tY b (mr a 0) (mr a 2) = mr (cmpO a b) 2 ∧ tY b (mr a 1) (mr a 3) = mr (cmpO a b) 3 := by decide
  intro a b ha hb
  exact h ⟨a, ha⟩ ⟨b, hb⟩
theorem mr_inv : ∀ a : Nat, a < 8 → mr a 0 = mr (invO a) 0 ∧ mr a 2 = mr (invO a) 1 ∧ mr a 1 = mr (invO a) 2 ∧ mr a 3 = mr (invO a) 3 := by
  have h : ∀ a : Fin 8, mr a 0 = mr (invO a) 0 ∧ mr a 2 = mr (invO a) 1 ∧ mr a 1 = mr (invO a) 2 ∧ mr a 3 = mr (invO a) 3 := by decide
  intro a ha
  exact h ⟨a, ha⟩
theorem mr_bd : ∀ a : Nat, a < 8 → (-1000 ≤ mr a 0 ∧ mr a 0 ≤ 1000) ∧ (-1000 ≤ mr a 1 ∧ mr a 1 ≤ 1000) ∧ (-1000 ≤ mr a 2 ∧ mr a 2 ≤ 1000) ∧ (-1000 ≤ mr a 3 ∧ mr a 3 ≤ 1000) := by
  have h : ∀ a : Fin 8, (-1000 ≤ mr a 0 ∧ mr a 0 ≤ 1000) ∧ (-1000 ≤ mr a 1 ∧ mr a 1 ≤ 1000) ∧ (-1000 ≤ mr a 2 ∧ mr a 2 ≤ 1000) ∧ (-1000 ≤ mr a 3 ∧ mr a 3 ≤ 1000) := by decide
  intro a ha
  exact h ⟨a, ha⟩

end Go.Proofs.YtfbalpkjcfdakaaGreatDoor

/- The program's orientations and transforms: then, images of points. Condition: the variable orientationMatrices holds its table. -/
namespace Go.Proofs.YtfbalpkjcfdakaaGreatDoor
open Go.RowKit
set_option linter.unusedVariables false
set_option linter.unusedSimpArgs false
attribute [local go_sem ↓] Go.wp_at_zero Go.wp_at_succ

set_option maxHeartbeats 4000000 in
theorem oImage_any (o : Nat) (x y : Int) (w : World) (ho : o < 8) (hM : Mats w) (hx : -1000000 ≤ x) (hx' : x ≤ 1000000) (hy : -1000000 ≤ y) (hy' : y ≤ 1000000) :
    Calls Tryz.prog 137 #[.int .i64 o, .agg #[.int .i64 x, .int .i64 y]] w fun e w' => e = .returned (.agg #[.int .i64 (tX o x y), .int .i64 (tY o x y)]) ∧ Below w.heap.size w w' := by
  have g0 : w.cell? ⟨0, o * 4, none⟩ = some (.int .i64 (mr o 0)) := mr_cell hM o ho 0 (by omega)
  have g1 := mr_cell hM o ho 1 (by omega)
  have g2 := mr_cell hM o ho 2 (by omega)
  have g3 := mr_cell hM o ho 3 (by omega)
  have b1 : (0 : Int) ≤ (o : Int) := by omega
  have b2 : (o : Int) < 8 := by omega
  have hms := hM.size
  have hmz := hM.ne
  go_enter Tryz.func137, Tryz.ntmps137
  go_wp2_with fail
  go_region_held3 (fun w' => w'.cell? ⟨0, o * 4, none⟩ = some (.int .i64 (mr o 0)) ∧ w'.cell? ⟨0, o * 4 + 1, none⟩ = some (.int .i64 (mr o 1)) ∧ w'.cell? ⟨0, o * 4 + 2, none⟩ = some (.int .i64 (mr o 2)) ∧ w'.cell? ⟨0, o * 4 + 3, none⟩ = some (.int .i64 (mr o 3)) ∧ w'.cell? ⟨w.heap.size, 0, none⟩ = some (.int .i64 x) ∧ w'.cell? ⟨w.heap.size, 1, none⟩ = some (.int .i64 y))
    (first | ((try dsimp only); go_split_ands; (repeat' (with_reducible refine And.intro ?_ ?_)) <;> first | ((repeat (with_reducible refine keepS ?_ (by simp; try omega) _)); (first | (with_reducible assumption) | (with_reducible exact keepC (by assumption) (by assumption)) | (with_reducible exact keepA (by assumption) _) | (with_reducible exact keepR (by assumption) (by omega) _))) | ((try simp only [World.size_alloc, World.size_setCell, World.size_drew]); omega) | (refine Mats.below hM ?_ hM.size; (repeat (first | (with_reducible exact Below.refl _ _) | (with_reducible refine Ext.drewN ?_ _) | (with_reducible refine Below.drew ?_) | (with_reducible refine Ext.alloc ?_ _) | (with_reducible refine Ext.setCell ?_ (by simp; try omega) _) | (with_reducible refine Ext.trans ?_ (by assumption)) | (with_reducible assumption) | exact Below.refl _ _)); done) | ((repeat (first | (with_reducible exact Below.refl _ _) | (with_reducible refine Ext.drewN ?_ _) | (with_reducible refine Below.drew ?_) | (with_reducible refine Ext.alloc ?_ _) | (with_reducible refine Ext.setCell ?_ (by simp; try omega) _) | (with_reducible refine Ext.trans ?_ (by assumption)) | (with_reducible assumption) | exact Below.refl _ _)); done) | (go_keep; done)))
    (first | (go_at_call 175; refine (matImage_any o x y _ b1 (by omega) hx hx' hy hy').mono ?_; rintro e w1 ⟨rfl, bw1⟩; obtain ⟨sw1, zw1, cw1, fw1⟩ := bcell bw1))
  go_wp2_with fail
  refine bodyPost_ret (v := .agg #[.int .i64 (tX o x y), .int .i64 (tY o x y)]) (by simp [*, results, Tryz.results137, go_sem]) rfl ⟨rfl, ?_⟩
  (repeat (first | (with_reducible exact Below.refl _ _) | (with_reducible refine Ext.drewN ?_ _) | (with_reducible refine Below.drew ?_) | (with_reducible refine Ext.alloc ?_ _) | (with_reducible refine Ext.setCell ?_ (by simp; try omega) _) | (with_reducible refine Ext.trans ?_ (by assumption)) | (with_reducible assumption) | exact Below.refl _ _))

end Go.Proofs.YtfbalpkjcfdakaaGreatDoor

/- The composition of orientations: the model's search and the program's matrices. Condition: the variable orientationMatrices holds its table. -/
namespace Go.Proofs.YtfbalpkjcfdakaaGreatDoor
open Go.RowKit
set_option linter.unusedVariables false
set_option linter.unusedSimpArgs false
attribute [local go_sem ↓] Go.wp_at_zero Go.wp_at_succ

theorem eqPt (a b c d : Int) (w : World) : (Op.equalIn 10000 107 (.agg #[.int .i64 a, .int .i64 b]) (.agg #[.int .i64 c, .int .i64 d])).run Tryz.prog w = .ok (a == c && b == d) w := by
  have hq : ∀ (a b : Int) (w : World), (Op.equalIn 9999 2 (.int .i64 a) (.int .i64 b)).run Tryz.prog w = .ok (a == b) w := fun a b w => run_equalIn_int w 9998 _ _ .i64 a b Tryz.underlying2
  have hs : Tryz.prog.stoodInHeld 107 = false := by kernel_rfl
  have hu : Tryz.prog.underlying 107 = some (.struct (Tryz.prog.fieldsOf 107)) := by kernel_rfl
  rw [run_equalIn_agg w 9999 _ _ _ hu hs]
  have hp : ∀ (x0 x1 : Int) (w : World), (part 2 #[.int .i64 x0, .int .i64 x1] 0).run Tryz.prog w = .ok (.int .i64 x0) w ∧ (part 2 #[.int .i64 x0, .int .i64 x1] 1).run Tryz.prog w = .ok (.int .i64 x1) w :=
    fun _ _ _ => ⟨by kernel_rfl, by kernel_rfl⟩
  have hf : (Tryz.prog.fieldsOf 107).toList.map (fun f => (f.name, f.type, f.offset)) = [("X", 2, 0), ("Y", 2, 1)] := by kernel_rfl
  generalize (Tryz.prog.fieldsOf 107).toList = fs at hf
  rcases fs with _ | ⟨f0, _ | ⟨f1, _ | ⟨f2, r⟩⟩⟩
  · simp at hf
  · simp at hf
  · simp only [List.map_cons, List.map_nil, List.cons.injEq, Prod.mk.injEq, and_true] at hf
    obtain ⟨⟨n0, t0, o0⟩, n1, t1, o1⟩ := hf
    simp only [Op.eqFields, n0, t0, o0, n1, t1, o1]
    simp only [ne_eq, String.reduceEq, not_false_eq_true, if_true, Sem.run_bind, (hp _ _ _).1, (hp _ _ _).2, Result.andThen_ok, hq, Sem.run_ite, Sem.run_pure]
    cases h0 : a == c <;> cases h1 : b == d <;> simp
  · simp at hf

theorem turn_cmp : ∀ a b : Nat, a < 8 → b < 8 → tX b (tX a 1 2) (tY a 1 2) = tX (cmpO a b) 1 2 ∧ tY b (tX a 1 2) (tY a 1 2) = tY (cmpO a b) 1 2 := by
  have h : ∀ a b : Fin 8, tX b (tX a 1 2) (tY a 1 2) = tX (cmpO a b) 1 2 ∧ tY b (tX a 1 2) (tY a 1 2) = tY (cmpO a b) 1 2 := by decide
  intro a b ha hb
  exact h ⟨a, ha⟩ ⟨b, hb⟩
theorem turn_inj : ∀ k c : Nat, k < 8 → c < 8 → (tX k 1 2 == tX c 1 2 && tY k 1 2 == tY c 1 2) = decide (k = c) := by
  have h : ∀ k c : Fin 8, (tX k 1 2 == tX c 1 2 && tY k 1 2 == tY c 1 2) = decide (k.1 = c.1) := by decide
  intro k c hk hc
  exact h ⟨k, hk⟩ ⟨c, hc⟩

end Go.Proofs.YtfbalpkjcfdakaaGreatDoor

/- The model's source of drawn numbers: its pointer, one number, one drawn transform. Conditions: the code's bytes lie below block B, the source's struct at block g, not below B. -/
namespace Go.Proofs.YtfbalpkjcfdakaaGreatDoor
open Go.RowKit
set_option linter.unusedVariables false
set_option linter.unusedSimpArgs false

/-- Only block g, and what is new, has changed. -/
abbrev Only (g : Nat) (w w' : World) : Prop := w.grownBy w' (some g)
theorem Only.refl (g : Nat) (w : World) : Only g w w := World.grownBy.refl w (some g)
theorem Only.set {g i : Nat} {a w : World} (h : Only g a w) (v : Value) : Only g a (w.setCell ⟨g, i, none⟩ v) :=
  ⟨h.os, h.tape, h.output, by simpa using h.size, fun k hk hne => by rw [Below.heap_setCell _ _ _ _ (fun e => hne (by rw [e]))]; exact h.block k hk hne⟩
theorem Only.drew {g : Nat} {a w : World} (h : Only g a w) : Only g a w.drew := ⟨h.os, h.tape, h.output, h.size, h.block⟩
theorem Only.drewN {g : Nat} {a w : World} (h : Only g a w) (n : Nat) : Only g a (w.drewN n) := ⟨h.os, h.tape, h.output, h.size, h.block⟩
theorem Only.cell {g b o : Nat} {w w' : World} {v : Value} (h : Only g w w') (hc : w.cell? ⟨b, o, none⟩ = some v) (hne : b ≠ g) : w'.cell? ⟨b, o, none⟩ = some v :=
  World.grownBy.cell h hc (by simpa using hne)
theorem Only.below {B g : Nat} {a w w' : World} (h : Below B a w) (k : Only g w w') (hB : B ≤ w.heap.size) (hg : B ≤ g) : Below B a w' :=
  h.grown k hB (fun j hj => by cases hj; exact hg)

/-- The bytes of the code: each lies below block B. -/
def CodeIs (B : Nat) (w : World) (a : Option Addr) (len : Nat) : Prop :=
  ∀ k, k < len → ∃ (b off : Nat) (v : Int), a = some ⟨b, off, none⟩ ∧ b < B ∧ w.cell? ⟨b, off + k, none⟩ = some (.int .u8 v) ∧ 0 ≤ v ∧ v ≤ 255
theorem CodeIs.below {B : Nat} {w w' : World} {a : Option Addr} {len : Nat} (h : CodeIs B w a len) (hb : Below B w w') : CodeIs B w' a len := fun k hk => by
  obtain ⟨b, off, v, h1, h2, h3, h4, h5⟩ := h k hk
  exact ⟨b, off, v, h1, h2, (hb.cell (p := ⟨b, off + k, none⟩) h2).trans h3, h4, h5⟩

/-- The source's struct at block g. -/
def SrcIs (g : Nat) (w : World) (a : Option Addr) (len cap : Nat) : Prop :=
  ∃ (k : Nat) (s : Int), k ≤ len ∧ 0 ≤ s ∧ s < 2147483647 ∧ w.cell? ⟨g, 0, none⟩ = some (.slice a len cap) ∧ w.cell? ⟨g, 1, none⟩ = some (.int .i64 k) ∧ w.cell? ⟨g, 2, none⟩ = some (.int .i64 s) ∧ w.frozen? ⟨g, 1, none⟩ = false ∧ w.frozen? ⟨g, 2, none⟩ = false

/-- What a drawn number is: r in 0..n-1; only the source has changed. -/
def Drawn (n : Int) (g : Nat) (w : World) (a : Option Addr) (len cap : Nat) (e : Ending) (w' : World) : Prop :=
  ∃ r : Int, 0 ≤ r ∧ r < n ∧ e = .returned (.int .i64 r) ∧ Only g w w' ∧ SrcIs g w' a len cap

theorem srcSet {g : Nat} {w : World} {a : Option Addr} {len cap k : Nat} {s s' : Int} (h0 : w.cell? ⟨g, 0, none⟩ = some (.slice a len cap)) (h1 : w.cell? ⟨g, 1, none⟩ = some (.int .i64 k)) (h2 : w.cell? ⟨g, 2, none⟩ = some (.int .i64 s)) (f1 : w.frozen? ⟨g, 1, none⟩ = false) (f2 : w.frozen? ⟨g, 2, none⟩ = false)
    (hk : k ≤ len) (p0 : 0 ≤ s') (p1 : s' < 2147483647) : SrcIs g (w.setCell ⟨g, 2, none⟩ (.int .i64 s')) a len cap :=
  ⟨k, s', hk, p0, p1, by rw [World.cell?_setCell_other _ _ _ _ (by simp)]; exact h0, by rw [World.cell?_setCell_other _ _ _ _ (by simp)]; exact h1, World.cell?_setCell_same _ _ _ h2, by simpa using f1, by simpa using f2⟩
theorem modP (x : Int) (h : 0 ≤ x) : 0 ≤ x % 2147483647 ∧ x % 2147483647 < 2147483647 := ⟨by omega, by omega⟩
theorem modN (x n : Int) (h : 1 < n) : 0 ≤ x % n ∧ x % n < n := ⟨Int.emod_nonneg _ (by omega), Int.emod_lt_of_pos _ (by omega)⟩

set_option maxHeartbeats 4000000 in
theorem l01Next_any (B g : Nat) (a : Option Addr) (len cap : Nat) (n : Int) (w : World) (hlen : len ≤ 8192) (h1n : 1 < n) (hn : n ≤ 1000000) (hC : CodeIs B w a len) (hS : SrcIs g w a len cap) :
    Calls Tryz.prog 103 #[.pointer (some ⟨g, 0, none⟩), .int .i64 n] w (Drawn n g w a len cap) := by
  obtain ⟨k, s, hk, hs0, hs1, c0, c1, c2, f1, f2⟩ := hS
  by_cases hlt : k < len
  · obtain ⟨b, off, v, rfl, hb, cv, hv0, hv1⟩ := hC k hlt
    have q1 : (k : Int) < (len : Int) := by omega
    have q0 : (0 : Int) ≤ (k : Int) := by omega
    by_cases h256 : 256 < n
    · go_enter Tryz.func103, Tryz.ntmps103
      go_wp2_with fail
      go_quiet (fail)
      go_wp2_with fail
      go_quiet (fail)
      go_wp2_with fail
      go_ret
      refine ⟨(s * 48271 + v + 1) % 2147483647 % n, (modN _ _ h1n).1, (modN _ _ h1n).2, rfl, ?_, ?_⟩
      · (repeat (first | (with_reducible exact Only.refl _ _) | (with_reducible refine Only.set ?_ _) | (with_reducible refine Only.drewN ?_ _) | (with_reducible refine Only.drew ?_)))
      · exact ⟨k + 1, (s * 48271 + v + 1) % 2147483647, by omega, (modP _ (by omega)).1, (modP _ (by omega)).2, by simp [*, go_sem], by simp [*, go_sem], by simp [*, go_sem], by simp [*, go_sem], by simp [*, go_sem]⟩
    · have h256' : n ≤ 256 := by omega
      go_enter Tryz.func103, Tryz.ntmps103
      go_wp2_with fail
      go_quiet (fail)
      go_wp2_with fail
      go_quiet (fail)
      go_wp2_with fail
      go_ret
      refine ⟨v % n, (modN _ _ h1n).1, (modN _ _ h1n).2, rfl, ?_, ?_⟩
      · (repeat (first | (with_reducible exact Only.refl _ _) | (with_reducible refine Only.set ?_ _) | (with_reducible refine Only.drewN ?_ _) | (with_reducible refine Only.drew ?_)))
      · exact ⟨k + 1, s, by omega, hs0, hs1, by simp [*, go_sem], by simp [*, go_sem], by simp [*, go_sem], by simp [*, go_sem], by simp [*, go_sem]⟩
  · have q1 : ¬ (k : Int) < (len : Int) := by omega
    have q2 : (len : Int) ≤ (k : Int) := by omega
    have m1 := modP (s * 48271 + 11) (by omega)
    go_enter Tryz.func103, Tryz.ntmps103
    go_wp2_with fail
    go_quiet (fail)
    go_wp2_with fail
    go_ret
    refine ⟨(s * 48271 + 11) % 2147483647 / 7 % n, (modN _ _ h1n).1, (modN _ _ h1n).2, rfl, ?_, ?_⟩
    · (repeat (first | (with_reducible exact Only.refl _ _) | (with_reducible refine Only.set ?_ _) | (with_reducible refine Only.drewN ?_ _) | (with_reducible refine Only.drew ?_)))
    · exact ⟨k, (s * 48271 + 11) % 2147483647, hk, m1.1, m1.2, by simp [*, go_sem], by simp [*, go_sem], by simp [*, go_sem], by simp [*, go_sem], by simp [*, go_sem]⟩

/-- What the source's start is: a new struct, with the code in it. -/
def Begun (w : World) (a : Option Addr) (len cap : Nat) (e : Ending) (w' : World) : Prop :=
  ∃ g : Nat, w.heap.size ≤ g ∧ g < w'.heap.size ∧ e = .returned (.pointer (some ⟨g, 0, none⟩)) ∧ Below w.heap.size w w' ∧ SrcIs g w' a len cap

set_option maxHeartbeats 4000000 in
theorem l01From_any (B : Nat) (a : Option Addr) (len cap : Nat) (w : World) (hlen : len ≤ 8192) (hB : B ≤ w.heap.size) (hC : CodeIs B w a len) :
    Calls Tryz.prog 55 #[.slice a len cap] w (Begun w a len cap) := by
  go_enter Tryz.func55, Tryz.ntmps55
  go_wp2_with fail
  go_loopw [4] (fun s4 wr => ∃ (i : Nat) (s : Int), i ≤ len ∧ s4 = .int .i64 i ∧ w.heap.size < wr.heap.size ∧ Below w.heap.size w wr ∧ 0 ≤ s ∧ s < 2147483647 ∧ wr.cell? ⟨w.heap.size, 0, none⟩ = some (.slice a len cap) ∧ wr.cell? ⟨w.heap.size, 1, none⟩ = some (.int .i64 0) ∧ wr.cell? ⟨w.heap.size, 2, none⟩ = some (.int .i64 s) ∧ wr.frozen? ⟨w.heap.size, 1, none⟩ = false ∧ wr.frozen? ⟨w.heap.size, 2, none⟩ = false) (fun s4 _ => len - (intOf s4).toNat)
  case atStart => exact ⟨0, 12345, by omega, rfl, by simp, by (repeat (first | (with_reducible exact Below.refl _ _) | (with_reducible refine Ext.drewN ?_ _) | (with_reducible refine Below.drew ?_) | (with_reducible refine Ext.alloc ?_ _) | (with_reducible refine Ext.setCell ?_ (by simp; try omega) _) | (with_reducible refine Ext.trans ?_ (by assumption)) | (with_reducible assumption) | exact Below.refl _ _)), by omega, by omega, by simp, by simp, by simp, by simp, by simp⟩
  case round =>
    obtain ⟨i, s, hi, rfl, hsz, hW, s0, s1, c0, c1, c2, f1, f2⟩ := hrel
    by_cases hlt : i < len
    · by_cases h64 : i < 64
      · obtain ⟨b, off, v, rfl, hb, cv0, hv0, hv1⟩ := hC i hlt
        have cv : wr.cell? ⟨b, off + i, none⟩ = some (.int .u8 v) := (hW.cell (p := ⟨b, off + i, none⟩) (by simp; omega)).trans cv0
        have q1 : (i : Int) < (len : Int) := by omega
        have q0 : (0 : Int) ≤ (i : Int) := by omega
        have q2 : (i : Int) < 64 := by omega
        go_wp2_with fail
        have q3 : b ≠ w.heap.size := by omega
        have hwrap : IntKind.i64.wrap (s * 31) = s * 31 := IntWalk.i64_in _ (by omega)
        have hwrap2 : IntKind.i64.wrap v = v := IntWalk.i64_in _ (by omega)
        have hwrap3 : IntKind.i64.wrap (s * 31 + v) = s * 31 + v := IntWalk.i64_in _ (by omega)
        go_region
        go_wp2_with fail
        go_roundw
        case rel =>
          have m1 := modP (s * 31 + v) (by omega)
          refine ⟨i + 1, (s * 31 + v) % 2147483647, by omega, by go_num, ?_, ?_, m1.1, m1.2, ?_, ?_, ?_, ?_, ?_⟩
          · simp; omega
          · (repeat (first | (with_reducible exact Below.refl _ _) | (with_reducible refine Ext.drewN ?_ _) | (with_reducible refine Below.drew ?_) | (with_reducible refine Ext.alloc ?_ _) | (with_reducible refine Ext.setCell ?_ (by simp; try omega) _) | (with_reducible refine Ext.trans ?_ (by assumption)) | (with_reducible assumption) | exact Below.refl _ _))
          · simp [*, go_sem]
          · simp [*, go_sem]
          · simp [*, go_sem]
          · simp [*, go_sem]
          · simp [*, go_sem]
        case measure => simp [intOf]; omega
      · have q1 : (i : Int) < (len : Int) := by omega
        have q2 : ¬ (i : Int) < 64 := by omega
        go_wp2_with fail
        go_ret
        exact ⟨w.heap.size, Nat.le_refl _, hsz, rfl, hW, ⟨0, s, by omega, s0, s1, c0, c1, c2, f1, f2⟩⟩
    · have q1 : ¬ (i : Int) < (len : Int) := by omega
      go_wp2_with fail
      go_ret
      exact ⟨w.heap.size, Nat.le_refl _, hsz, rfl, hW, ⟨0, s, by omega, s0, s1, c0, c1, c2, f1, f2⟩⟩
end Go.Proofs.YtfbalpkjcfdakaaGreatDoor

/- A drawn transform. Conditions as in TrQ. -/
namespace Go.Proofs.YtfbalpkjcfdakaaGreatDoor
open Go.RowKit
set_option linter.unusedVariables false
set_option linter.unusedSimpArgs false

theorem Only.trans {g : Nat} {a b c : World} (h : Only g a b) (k : Only g b c) : Only g a c :=
  ⟨k.os.trans h.os, k.tape.trans h.tape, k.output.trans h.output, Nat.le_trans h.size k.size, fun i hi hne => (k.block i (Nat.lt_of_lt_of_le hi h.size) hne).trans (h.block i hi hne)⟩
theorem Only.alloc {g : Nat} {a w : World} (h : Only g a w) (o : Obj) : Only g a (w.alloc o) := h.trans (World.grownBy_alloc w o _)
theorem Only.setNew {g b i : Nat} {a w : World} (h : Only g a w) (hb : a.heap.size ≤ b) (v : Value) : Only g a (w.setCell ⟨b, i, none⟩ v) :=
  ⟨h.os, h.tape, h.output, by simpa using h.size, fun k hk hne => by rw [Below.heap_setCell _ _ _ _ (by intro e; simp at e; omega)]; exact h.block k hk hne⟩
theorem Only.frz {g b o : Nat} {w w' : World} (h : Only g w w') (hf : w.frozen? ⟨b, o, none⟩ = false) (hlt : b < w.heap.size) (hne : b ≠ g) : w'.frozen? ⟨b, o, none⟩ = false :=
  (World.frozen?_of_block (h.block b hlt (by simpa using hne))).trans hf
theorem CodeIs.only {B g : Nat} {w w' : World} {a : Option Addr} {len : Nat} (h : CodeIs B w a len) (k : Only g w w') (hB : B ≤ w.heap.size) (hg : B ≤ g) : CodeIs B w' a len :=
  h.below (Only.below (Below.refl _ _) k hB hg)
theorem CodeIs.alloc {B : Nat} {w : World} {a : Option Addr} {len : Nat} (h : CodeIs B w a len) (hB : B ≤ w.heap.size) (o : Obj) : CodeIs B (w.alloc o) a len := h.below ((Below.refl _ _).alloc hB o)
theorem SrcIs.alloc {g : Nat} {w : World} {a : Option Addr} {len cap : Nat} (h : SrcIs g w a len cap) (o : Obj) : SrcIs g (w.alloc o) a len cap := by
  obtain ⟨k, s, h1, h2, h3, c0, c1, c2, f1, f2⟩ := h
  have hg : g < w.heap.size := World.block_lt_of_cell? w ⟨g, 0, none⟩ c0
  exact ⟨k, s, h1, h2, h3, keepA c0 o, keepA c1 o, keepA c2 o, by rw [World.frozen?_alloc_old _ _ _ (by simp; omega)]; exact f1, by rw [World.frozen?_alloc_old _ _ _ (by simp; omega)]; exact f2⟩
theorem SrcIs.set {g b i : Nat} {w : World} {a : Option Addr} {len cap : Nat} (h : SrcIs g w a len cap) (hne : b ≠ g) (v : Value) : SrcIs g (w.setCell ⟨b, i, none⟩ v) a len cap := by
  obtain ⟨k, s, h1, h2, h3, c0, c1, c2, f1, f2⟩ := h
  exact ⟨k, s, h1, h2, h3, keepS c0 hne v, keepS c1 hne v, keepS c2 hne v, by simpa using f1, by simpa using f2⟩
theorem SrcIs.drew {g : Nat} {w : World} {a : Option Addr} {len cap : Nat} (h : SrcIs g w a len cap) : SrcIs g w.drew a len cap := h
theorem CodeIs.drew {B : Nat} {w : World} {a : Option Addr} {len : Nat} (h : CodeIs B w a len) : CodeIs B w.drew a len := h
theorem SrcIs.lt {g : Nat} {w : World} {a : Option Addr} {len cap : Nat} (h : SrcIs g w a len cap) : g < w.heap.size := by
  obtain ⟨k, s, h1, h2, h3, c0, c1, c2, f1, f2⟩ := h
  exact World.block_lt_of_cell? w ⟨g, 0, none⟩ c0

/-- What a drawn transform is. -/
def DrawnT (g : Nat) (w : World) (a : Option Addr) (len cap : Nat) (e : Ending) (w' : World) : Prop :=
  ∃ o x y : Int, (0 ≤ o ∧ o ≤ 7) ∧ (-100 ≤ x ∧ x ≤ 100) ∧ (-100 ≤ y ∧ y ≤ 100) ∧ e = .returned (.agg #[.int .i64 o, .int .i64 x, .int .i64 y]) ∧ Only g w w' ∧ SrcIs g w' a len cap

/-- Two drawn transforms. -/
def DrawnTT (w : World) (e : Ending) (w' : World) : Prop :=
  ∃ o x y p q r : Int, ((0 ≤ o ∧ o ≤ 7) ∧ (-100 ≤ x ∧ x ≤ 100) ∧ (-100 ≤ y ∧ y ≤ 100)) ∧ ((0 ≤ p ∧ p ≤ 7) ∧ (-100 ≤ q ∧ q ≤ 100) ∧ (-100 ≤ r ∧ r ≤ 100)) ∧ e = .returned (.tuple #[.agg #[.int .i64 o, .int .i64 x, .int .i64 y], .agg #[.int .i64 p, .int .i64 q, .int .i64 r]]) ∧ Below w.heap.size w w'

end Go.Proofs.YtfbalpkjcfdakaaGreatDoor
