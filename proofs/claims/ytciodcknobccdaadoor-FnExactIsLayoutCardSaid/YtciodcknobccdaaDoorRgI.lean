/- The model's box of a region and its clipping. -/
import Derived.Test.YtciodcknobccdaaDoorRgH
namespace Go.Proofs.YtciodcknobccdaaDoor
open Go.RowKit
set_option linter.unusedVariables false
set_option linter.unusedSimpArgs false
attribute [local go_sem ↓] Go.wp_at_zero Go.wp_at_succ

section
variable (m : Option Addr) (len cap : Nat) (P Q R S : Nat → Int) (w : World) (hlen : len ≤ 1048576) (hR : RectsIs w.heap.size w m len P Q R S)
include hlen hR

end

theorem BitsIs.put {w : World} {g j : Nat} {f : Nat → Bool} (h : BitsIs w g f) (hj : j < 6400) (v : Bool) : BitsIs (w.setCell ⟨g, j, none⟩ (.bool v)) g (fun i => if i = j then v else f i) := fun i hi => by
  refine ⟨?_, by simpa using (h i hi).2⟩
  by_cases e : i = j
  · subst e
    exact (World.cell?_setCell_same _ _ _ (h i hi).1).trans (by simp)
  · rw [World.cell?_setCell_other _ _ _ _ (by simp <;> omega)]
    rw [(h i hi).1]; simp [e]
theorem BitsIs.other {w : World} {g g' j : Nat} {f : Nat → Bool} (h : BitsIs w g f) (hne : g' ≠ g) (v : Value) : BitsIs (w.setCell ⟨g', j, none⟩ v) g f := fun i hi =>
  ⟨by rw [World.cell?_setCell_other _ _ _ _ (by simp <;> (intro e; exact absurd e hne))]; exact (h i hi).1, by simpa using (h i hi).2⟩

/-- Flags of f in rows b .. y-1 of the box; then in columns a .. x-1 of row y. -/
def fC (f : Nat → Bool) (a b c : Int) (y : Int) (i : Nat) : Bool := f i && (decide (a ≤ (i % 80 : Nat) - 40) && decide (((i % 80 : Nat) : Int) - 40 < c) && decide (b ≤ (i / 80 : Nat) - 40) && decide (((i / 80 : Nat) : Int) - 40 < y))
def fCI (f : Nat → Bool) (a b c : Int) (y x : Int) (i : Nat) : Bool := fC f a b c y i || (f i && (decide (((i / 80 : Nat) : Int) - 40 = y) && decide (a ≤ (i % 80 : Nat) - 40) && decide (((i % 80 : Nat) : Int) - 40 < x)))
theorem fC_start (f : Nat → Bool) (a b c : Int) (i : Nat) : false = fC f a b c b i := by
  unfold fC
  have h : (decide (b ≤ ((i / 80 : Nat) : Int) - 40) && decide (((i / 80 : Nat) : Int) - 40 < b)) = false := by rw [Bool.and_eq_false_iff, decide_eq_false_iff_not, decide_eq_false_iff_not]; omega
  rw [Bool.and_assoc (decide _ && decide _), h]; simp
theorem fCI_start (f : Nat → Bool) (a b c y : Int) (i : Nat) : fC f a b c y i = fCI f a b c y a i := by
  unfold fCI
  have h : (decide (a ≤ ((i % 80 : Nat) : Int) - 40) && decide (((i % 80 : Nat) : Int) - 40 < a)) = false := by rw [Bool.and_eq_false_iff, decide_eq_false_iff_not, decide_eq_false_iff_not]; omega
  rw [Bool.and_assoc (decide _), h]; simp
theorem fCI_end (f : Nat → Bool) (a b c y : Int) (h : b ≤ y) (i : Nat) : fCI f a b c y c i = fC f a b c (y + 1) i := by
  unfold fCI fC
  cases f i
  · simp
  · rw [Bool.eq_iff_iff]
    simp only [Bool.or_eq_true, Bool.and_eq_true, decide_eq_true_eq, Bool.true_and]; omega
theorem fCI_step (f : Nat → Bool) (a b c y x : Int) (h1 : -40 ≤ x) (h2 : x ≤ 39) (h3 : -40 ≤ y) (h4 : y ≤ 39) (hp : a ≤ x) (i : Nat) : (if i = cIx x y then f (cIx x y) else fCI f a b c y x i) = fCI f a b c y (x + 1) i := by
  have e := cIx_back h1 h2 h3 h4
  by_cases hi : i = cIx x y
  · rw [if_pos hi, hi]
    unfold fCI
    rw [e.1, e.2]
    have e1 : (decide (y = y) && decide (a ≤ x) && decide (x < x + 1)) = true := by simp; omega
    rw [e1]
    unfold fC
    cases f (cIx x y) <;> simp
  · rw [if_neg hi]
    unfold fCI
    have hne : ¬ (((i / 80 : Nat) : Int) - 40 = y ∧ ((i % 80 : Nat) : Int) - 40 = x) := by
      intro h
      refine hi ?_
      unfold cIx
      omega
    congr 2
    rw [Bool.eq_iff_iff]
    simp only [Bool.and_eq_true, decide_eq_true_eq]; omega
/-- The flags of f in the box. -/
def clipF (f : Nat → Bool) (a b c d : Int) : Nat → Bool := fC f a b c d

end Go.Proofs.YtciodcknobccdaaDoor
