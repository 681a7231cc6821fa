/- A region's cells are as many as its rectangles' areas say. No program's run in it. -/
import Derived.Test.YtadfmflkaemmbaaDoorRgX
namespace Go.Proofs.YtadfmflkaemmbaaDoor
open Go.RowKit
set_option linter.unusedVariables false
set_option linter.unusedSimpArgs false

/-- How many of the first k cells of row y are set. -/
def rowC (f : Nat → Bool) (y : Int) : Nat → Int
  | 0 => 0
  | k + 1 => rowC f y k + if hasB f (-40 + (k : Int)) y = true then 1 else 0
theorem cntF_row (f : Nat → Bool) (j : Nat) (hj : j < 80) : ∀ k : Nat, k ≤ 80 → cntF f (80 * j + k) = cntF f (80 * j) + rowC f (-40 + (j : Int)) k
  | 0, _ => by simp [rowC]
  | k + 1, hk => by
    have ih := cntF_row f j hj k (by omega)
    rw [show 80 * j + (k + 1) = (80 * j + k) + 1 by omega, cntF, ih, rowC, hasB_in (by omega)]
    have e : cIx (-40 + (k : Int)) (-40 + (j : Int)) = 80 * j + k := by unfold cIx; omega
    rw [e]; omega
/-- The cells of the runs up to column v. -/
def psum (v : Int) : List Int → Int
  | a :: c :: l => (c - a) + psum v l
  | [a] => v - a
  | [] => 0
theorem psum_up (v : Int) : ∀ l : List Int, psum (v + 1) l = psum v l + if l.length % 2 = 1 then 1 else 0
  | [] => by simp [psum]
  | [a] => by simp [psum]; omega
  | a :: c :: l => by
    have ih := psum_up v l
    rw [psum, psum, ih]
    have e : (a :: c :: l).length % 2 = l.length % 2 := by simp only [List.length_cons]; omega
    rw [e]; omega
theorem psum_snoc (v : Int) : ∀ l : List Int, psum v (l ++ [v]) = psum v l
  | [] => by simp [psum]
  | [a] => by simp [psum]
  | a :: c :: l => by
    rw [List.cons_append, List.cons_append, psum, psum, psum_snoc v l]
theorem rowC_psum (f : Nat → Bool) (y : Int) : ∀ k : Nat, k ≤ 81 → rowC f y k = psum (-40 + (k : Int)) (runsTo f y k)
  | 0, _ => rfl
  | k + 1, hk => by
    have ih := rowC_psum f y k (by omega)
    have hp := runsTo_par f y (k + 1) hk
    rw [show (-40 + ((k + 1 : Nat) : Int) - 1) = -40 + (k : Int) by omega] at hp
    rw [show (-40 + ((k + 1 : Nat) : Int)) = -40 + (k : Int) + 1 by omega, psum_up, rowC, ih]
    have e : psum (-40 + (k : Int)) (runsTo f y (k + 1)) = psum (-40 + (k : Int)) (runsTo f y k) := by
      rw [runsTo]; split
      · exact psum_snoc _ _
      · rfl
    rw [e]
    by_cases hb : hasB f (-40 + (k : Int)) y = true
    · rw [if_pos hb, if_pos (hp.1 hb)]
    · rw [if_neg hb, if_neg (fun h => hb (hp.2 h))]
theorem rowC_runs (f : Nat → Bool) (y : Int) : rowC f y 80 = psum 40 (runsL f y) := by
  have h := rowC_psum f y 80 (by omega)
  rw [show (-40 + ((80 : Nat) : Int)) = 40 by omega] at h
  have e : runsTo f y 81 = runsTo f y (80 + 1) := rfl
  have e2 : psum 40 (runsTo f y (80 + 1)) = psum 40 (runsTo f y 80) := by
    cases hc : chg f (-40 + ((80 : Nat) : Int)) y with
    | true =>
      rw [runsTo_yes hc]
      exact psum_snoc 40 _
    | false => rw [runsTo_no hc]
  unfold runsL
  rw [e, e2, h]
/-- The cells of the first j rows that list l holds. -/
def rowsS (l : List R4) : Nat → Int
  | 0 => 0
  | j + 1 => rowsS l j + psum 40 (rowL l (-40 + (j : Int)))
theorem cntF_rows (f : Nat → Bool) : ∀ j : Nat, j ≤ 80 → cntF f (80 * j) = rowsS (canonL f) j
  | 0, _ => rfl
  | j + 1, hj => by
    have ih := cntF_rows f j (by omega)
    have h := cntF_row f j (by omega) 80 (Nat.le_refl _)
    rw [show 80 * (j + 1) = 80 * j + 80 by omega, h, ih, rowC_runs, rowsS, canonL_row f _ (by omega) (by omega)]
/-- How many of the first j rows lie from b to d. -/
def rowN (b d : Int) : Nat → Int
  | 0 => 0
  | j + 1 => rowN b d j + if b ≤ -40 + (j : Int) ∧ -40 + (j : Int) < d then 1 else 0
theorem rowN_is (b d : Int) (h1 : -40 ≤ b) (h2 : b ≤ d) : ∀ j : Nat, rowN b d j = if -40 + (j : Int) ≤ b then 0 else if -40 + (j : Int) ≤ d then -40 + (j : Int) - b else d - b
  | 0 => by rw [if_pos (by omega)]; rfl
  | j + 1 => by
    rw [rowN, rowN_is b d h1 h2 j]
    split <;> split <;> split <;> (try split) <;> (try split) <;> omega
theorem rowsS_cons (r : R4) (l : List R4) : ∀ j, rowsS (r :: l) j = (r.c - r.a) * rowN r.b r.d j + rowsS l j
  | 0 => by simp [rowsS, rowN]
  | j + 1 => by
    have ih := rowsS_cons r l j
    have e : psum 40 (rowL (r :: l) (-40 + (j : Int))) = (if r.b ≤ -40 + (j : Int) ∧ -40 + (j : Int) < r.d then r.c - r.a else 0) + psum 40 (rowL l (-40 + (j : Int))) := by
      unfold rowL
      rw [List.flatMap_cons]
      split
      · rw [List.cons_append, List.cons_append, List.nil_append, psum]
      · rw [List.nil_append]; omega
    rw [rowsS, rowsS, ih, e, rowN, Int.mul_add]
    split
    · rw [Int.mul_one]; omega
    · rw [Int.mul_zero]; omega
theorem rowsS_area : ∀ l : List R4, (∀ r, r ∈ l → rvB r.a r.b r.c r.d = true) → rowsS l 80 = (l.map fun r => areaV r.a r.b r.c r.d).sum
  | [], _ => by
    have : ∀ j, rowsS [] j = 0 := fun j => by
      induction j with
      | zero => rfl
      | succ j ih => rw [rowsS, ih]; rfl
    rw [this]; rfl
  | r :: l, h => by
    have hr := h r (by simp)
    obtain ⟨h1, h2, h3, h4, h5, h6⟩ := rvB_t hr
    rw [rowsS_cons, rowsS_area l fun u hu => h u (by simp [hu]), rowN_is _ _ (by omega) (by omega), List.map_cons, List.sum_cons]
    unfold areaV
    rw [if_pos hr]
    by_cases e : (-40 + ((80 : Nat) : Int)) ≤ r.b
    · omega
    · rw [if_neg e]
      by_cases e2 : (-40 + ((80 : Nat) : Int)) ≤ r.d
      · rw [if_pos e2, show (-40 + ((80 : Nat) : Int)) - r.b = r.d - r.b by omega]
      · rw [if_neg e2]
theorem sumA_listR (P Q R S : Nat → Int) : ∀ n, ((listR P Q R S n).map fun r => areaV r.a r.b r.c r.d).sum = sumA P Q R S n
  | 0 => rfl
  | n + 1 => by
    have ih := sumA_listR P Q R S n
    unfold listR at ih ⊢
    rw [List.range_succ, List.map_append, List.map_append, List.sum_append, ih, sumA]
    simp
theorem okR_canon {P Q R S : Nat → Int} {n : Nat} (h : okR P Q R S n = true) : canonL (covF P Q R S n) = listR P Q R S n := by
  unfold okR at h
  rw [Bool.and_eq_true] at h
  exact of_decide_eq_true h.2
theorem listR_valid {P Q R S : Nat → Int} {n : Nat} (h : ∀ i, i < n → rvB (P i) (Q i) (R i) (S i) = true) : ∀ r, r ∈ listR P Q R S n → rvB r.a r.b r.c r.d = true := fun r hr => by
  unfold listR at hr
  obtain ⟨i, hi, rfl⟩ := List.mem_map.1 hr
  exact h i (List.mem_range.1 hi)
/-- The area of a region is the sum of its rectangles' areas. -/
theorem okR_area {P Q R S : Nat → Int} {n : Nat} (h : okR P Q R S n = true) : cntF (covF P Q R S n) 6400 = sumA P Q R S n := by
  have h1 := cntF_rows (covF P Q R S n) 80 (Nat.le_refl _)
  rw [okR_canon h, rowsS_area _ (listR_valid (okR_all h)), sumA_listR] at h1
  exact h1
theorem areaR_sum (P Q R S : Nat → Int) (n : Nat) : areaR P Q R S n = if okR P Q R S n = true then sumA P Q R S n else -1 := by
  unfold areaR
  by_cases h : okR P Q R S n = true
  · rw [if_pos h, if_pos h, okR_area h]
  · rw [if_neg h, if_neg h]
/-- A region's rows. -/
theorem okR_row {P Q R S : Nat → Int} {n : Nat} (h : okR P Q R S n = true) (y : Int) (h1 : -40 ≤ y) (h2 : y < 40) : runsL (covF P Q R S n) y = rowL (listR P Q R S n) y := by
  rw [← canonL_row _ y h1 h2, okR_canon h]
end Go.Proofs.YtadfmflkaemmbaaDoor
