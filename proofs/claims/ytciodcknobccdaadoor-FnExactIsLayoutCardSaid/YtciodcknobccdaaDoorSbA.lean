/- The model's Boolean operations. Condition: the rectangles' cells are in memory. -/
import Derived.Test.YtciodcknobccdaaDoorRgN
namespace Go.Proofs.YtciodcknobccdaaDoor
open Go.RowKit
set_option linter.unusedVariables false
set_option linter.unusedSimpArgs false
attribute [local go_sem ↓] Go.wp_at_zero Go.wp_at_succ

/-- A truth table of two flags. -/
def tt (op : Nat) (a b : Bool) : Bool := op / (if a = true then (if b = true then 8 else 4) else (if b = true then 2 else 1)) % 2 == 1

theorem bits_made {w w1 : World} (own1 : w1.ownsRow w.heap.size 4 1 (.slice (some ⟨w.heap.size, 0, none⟩) 6400 6400) 6400 (madeCells (Value.bool false).cells 6400).toList) : BitsIs w1 w.heap.size (fun _ => false) := fun k hk => by
  refine ⟨?_, own1.frozenAt _⟩
  rw [own1.cellAt _ (by omega)]
  exact made1 _ _ (by omega)
theorem tt_nat (op K : Nat) : ((op : Int) / (K : Int) % 2 == 1) = (op / K % 2 == 1) := by
  have e : (op : Int) / (K : Int) % 2 = ((op / K % 2 : Nat) : Int) := by simp
  rw [e, Bool.eq_iff_iff, beq_iff_eq, beq_iff_eq]
  omega
theorem tt_tt (op : Nat) : ((op : Int) / 8 % 2 == 1) = tt op true true := tt_nat op 8
theorem tt_tf (op : Nat) : ((op : Int) / 4 % 2 == 1) = tt op true false := tt_nat op 4
theorem tt_ft (op : Nat) : ((op : Int) / 2 % 2 == 1) = tt op false true := tt_nat op 2
theorem tt_ff (op : Nat) : ((op : Int) % 2 == 1) = tt op false false := by
  have := tt_nat op 1
  rw [show ((1 : Nat) : Int) = 1 from rfl, Int.ediv_one] at this
  exact this
theorem comb_step (T : Nat → Bool) (i j : Nat) (v : Bool) (hv : v = T i) : (if j = i then v else (decide (j < i) && T j)) = (decide (j < i + 1) && T j) := by
  by_cases e : j = i
  · subst e
    rw [if_pos rfl, hv, decide_eq_true (Nat.lt_succ_self j), Bool.true_and]
  · rw [if_neg e]
    congr 1
    rw [Bool.eq_iff_iff, decide_eq_true_eq, decide_eq_true_eq]
    omega

/-- The flags of an operation on two lists. -/
def opF (op : Nat) (P Q R S : Nat → Int) (n : Nat) (A B C D : Nat → Int) (k : Nat) (i : Nat) : Bool := tt op (covF P Q R S n i) (covF A B C D k i)
/-- What an operation answers. -/
def opL (op : Nat) (P Q R S : Nat → Int) (n : Nat) (A B C D : Nat → Int) (k : Nat) : List R4 := if (okR P Q R S n && okR A B C D k) = true then canonL (opF op P Q R S n A B C D k) else []
theorem opL_len (op : Nat) (P Q R S : Nat → Int) (n : Nat) (A B C D : Nat → Int) (k : Nat) : (opL op P Q R S n A B C D k).length ≤ 3280 := by
  unfold opL; split
  · exact canonL_len _
  · simp
theorem opL_no {op : Nat} {P Q R S : Nat → Int} {n : Nat} {A B C D : Nat → Int} {k : Nat} {e : Ending} {w : World} (h : (okR P Q R S n && okR A B C D k) = false) (he : e = .returned (.slice none 0 0)) : LRes (opL op P Q R S n A B C D k) e w := by
  have e0 : opL op P Q R S n A B C D k = [] := by unfold opL; rw [if_neg (by simp [h])]
  rw [e0]
  exact ⟨none, 0, he, RectsL.nil _ _ _⟩
theorem opL_yes {B0 op h c : Nat} {P Q R S : Nat → Int} {n : Nat} {A B C D : Nat → Int} {k : Nat} {e : Ending} {w : World} (hok : (okR P Q R S n && okR A B C D k) = true) (hI : RecIs B0 w h (canonL (opF op P Q R S n A B C D k))) (he : e = .returned (.slice (some ⟨h, 0, none⟩) (canonL (opF op P Q R S n A B C D k)).length c)) : LRes (opL op P Q R S n A B C D k) e w := by
  have e0 : opL op P Q R S n A B C D k = canonL (opF op P Q R S n A B C D k) := by unfold opL; rw [if_pos hok]
  rw [e0]
  exact ⟨_, c, he, hI.rects⟩

end Go.Proofs.YtciodcknobccdaaDoor

/- The model's Complement, Covers and Overlaps. Condition: the rectangles' cells are in memory. -/
namespace Go.Proofs.YtciodcknobccdaaDoor
open Go.RowKit
set_option linter.unusedVariables false
set_option linter.unusedSimpArgs false
attribute [local go_sem ↓] Go.wp_at_zero Go.wp_at_succ

/-- What Complement answers. -/
def cmL (P Q R S : Nat → Int) (n : Nat) : List R4 := if okR P Q R S n = true then canonL (opF 1 P Q R S n P Q R S n) else []
theorem cmL_len (P Q R S : Nat → Int) (n : Nat) : (cmL P Q R S n).length ≤ 3280 := by
  unfold cmL; split
  · exact canonL_len _
  · simp

/-- What Covers and Overlaps answer. -/
def cvB (P Q R S : Nat → Int) (n : Nat) (A B C D : Nat → Int) (k : Nat) : Bool := (okR P Q R S n && okR A B C D k) && ((((canonL (opF 4 A B C D k P Q R S n)).length : Nat) : Int) == 0)
def ovL (P Q R S : Nat → Int) (n : Nat) (A B C D : Nat → Int) (k : Nat) : Bool := (okR P Q R S n && okR A B C D k) && decide (0 < (canonL (opF 8 P Q R S n A B C D k)).length)
end Go.Proofs.YtciodcknobccdaaDoor
