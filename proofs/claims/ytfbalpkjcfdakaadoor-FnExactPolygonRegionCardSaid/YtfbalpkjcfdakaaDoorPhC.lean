/- The model's fill between edges, cell by cell; the flags turned over. Condition: the cells are in memory. -/
import Derived.Test.YtfbalpkjcfdakaaDoorPhA
namespace Go.Proofs.YtfbalpkjcfdakaaDoor
open Go.RowKit
set_option linter.unusedVariables false
set_option linter.unusedSimpArgs false

/-- The set f, turned over where q says so. -/
def tgF (f : Nat → Bool) (q : Int → Int → Bool) (k : Nat) : Bool := f k != q (((k % 80 : Nat) : Int) - 40) (((k / 80 : Nat) : Int) - 40)
def fmQ (a lo y u v : Int) : Bool := (decide (lo ≤ v) && decide (v < y)) && decide (a ≤ u)
def fiQ (a lo y x u v : Int) : Bool := fmQ a lo y u v || ((decide (v = y) && decide (a ≤ u)) && decide (u < x))
theorem tg_congr {f : Nat → Bool} {p q : Int → Int → Bool} {k : Nat} (h : ∀ u v : Int, u ≤ 39 → p u v = q u v) : tgF f p k = tgF f q k := by
  unfold tgF; rw [h _ _ (by omega)]
theorem tg_no {f : Nat → Bool} {q : Int → Int → Bool} {k : Nat} (h : ∀ u v : Int, q u v = false) : tgF f q k = f k := by
  unfold tgF; rw [h]; simp
theorem fm_start (f : Nat → Bool) (a lo y : Int) (hy : y ≤ lo) (k : Nat) : f k = tgF f (fmQ a lo y) k := by
  rw [tg_no]
  intro u v
  unfold fmQ
  rw [Bool.and_eq_false_iff, Bool.and_eq_false_iff, decide_eq_false_iff_not, decide_eq_false_iff_not]; omega
theorem fi_start (f : Nat → Bool) (a lo y : Int) (k : Nat) : tgF f (fmQ a lo y) k = tgF f (fiQ a lo y a) k := by
  refine tg_congr fun u v _ => ?_
  unfold fiQ
  have : ((decide (v = y) && decide (a ≤ u)) && decide (u < a)) = false := by
    rw [Bool.and_eq_false_iff, Bool.and_eq_false_iff, decide_eq_false_iff_not, decide_eq_false_iff_not, decide_eq_false_iff_not]; omega
  rw [this, Bool.or_false]
theorem fi_end (f : Nat → Bool) (a lo y : Int) (h : lo ≤ y) (k : Nat) : tgF f (fiQ a lo y 40) k = tgF f (fmQ a lo (y + 1)) k := by
  refine tg_congr fun u v hu => ?_
  unfold fiQ fmQ
  rw [Bool.eq_iff_iff]
  simp only [Bool.or_eq_true, Bool.and_eq_true, decide_eq_true_eq]
  omega
theorem fi_step (f : Nat → Bool) (a lo y x : Int) (h1 : -40 ≤ x) (h2 : x ≤ 39) (h3 : -40 ≤ y) (h4 : y ≤ 39) (ha : a ≤ x) (k : Nat) : (tgF f (fiQ a lo y x) k != decide (k = cIx x y)) = tgF f (fiQ a lo y (x + 1)) k := by
  have e : decide (k = cIx x y) = (decide ((((k / 80 : Nat) : Int) - 40) = y) && decide ((((k % 80 : Nat) : Int) - 40) = x)) := by
    rw [Bool.eq_iff_iff, Bool.and_eq_true, decide_eq_true_eq, decide_eq_true_eq, decide_eq_true_eq]
    unfold cIx
    omega
  unfold tgF
  rw [e]
  generalize (((k / 80 : Nat) : Int) - 40) = v
  generalize (((k % 80 : Nat) : Int) - 40) = u
  have e2 : fiQ a lo y (x + 1) u v = (fiQ a lo y x u v != (decide (v = y) && decide (u = x))) := by
    unfold fiQ fmQ
    by_cases p : v = y
    · subst p
      by_cases q : u = x
      · subst q; simp [ha]; omega
      · have : decide (u < x + 1) = decide (u < x) := decide_eq_decide.2 (by omega)
        rw [this]; simp [q]
    · simp [p]
  rw [e2]
  cases f k <;> cases fiQ a lo y x u v <;> cases (decide (v = y) && decide (u = x)) <;> rfl
/-- An upright edge done. -/
theorem fm_end {P Q R S : Nat → Int} {i : Nat} (hp : P i = R i) (k : Nat) : tgF (fillF (listR P Q R S i)) (fmQ (P i) (min (Q i) (S i)) (max (Q i) (S i))) k = fillF (listR P Q R S (i + 1)) k := by
  unfold tgF
  rw [listR_succ]
  unfold fillF
  rw [lft_snoc]
  unfold fmQ crs
  simp [hp]
/-- Another edge done. -/
theorem fl_end {P Q R S : Nat → Int} {i : Nat} (hp : P i ≠ R i) (k : Nat) : fillF (listR P Q R S i) k = fillF (listR P Q R S (i + 1)) k := by
  rw [listR_succ]
  unfold fillF
  rw [lft_snoc]
  unfold crs
  simp [hp]
theorem fillF_none (P Q R S : Nat → Int) (k : Nat) : fillF (listR P Q R S 0) k = false := by
  unfold fillF lft
  simp [listR]
theorem BitsIs.tog {w : World} {g k : Nat} {f : Nat → Bool} (h : BitsIs w g f) (hk : k < 6400) : BitsIs (w.setCell ⟨g, k, none⟩ (.bool (!f k))) g (fun i => f i != decide (i = k)) := fun i hi => by
  obtain ⟨c, fz⟩ := h i hi
  refine ⟨?_, by simpa [go_sem] using fz⟩
  by_cases e : i = k
  · subst e
    rw [World.cell?_setCell_same _ _ _ c]
    simp
  · rw [World.cell?_setCell_other _ _ _ _ (by simp <;> omega), c]
    simp [e]
end Go.Proofs.YtfbalpkjcfdakaaDoor
