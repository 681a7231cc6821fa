/- Cells of rectangles' lists: on the chip, clipped, joined. No program's run in it. -/
import Derived.Test.YtciodcknobccdaaDoorRgW
import Derived.Test.YtciodcknobccdaaDoorRgI
namespace Go.Proofs.YtciodcknobccdaaDoor
open Go.RowKit
set_option linter.unusedVariables false
set_option linter.unusedSimpArgs false

theorem covB_out {P Q R S : Nat → Int} {x y : Int} (h : ¬ ((-40 ≤ x ∧ x ≤ 39) ∧ (-40 ≤ y ∧ y ≤ 39))) : ∀ {n : Nat}, (∀ i, i < n → rvB (P i) (Q i) (R i) (S i) = true) → covB P Q R S x y n = false
  | 0, _ => rfl
  | n + 1, hv => by
    obtain ⟨h1, h2, h3, h4, h5, h6⟩ := rvB_t (hv n (by omega))
    rw [covB, covB_out h fun i hi => hv i (by omega)]
    cases hc : (decide (P n ≤ x) && decide (x < R n) && decide (Q n ≤ y) && decide (y < S n)) with
    | false => rfl
    | true =>
      simp only [Bool.and_eq_true, decide_eq_true_eq] at hc
      exact absurd ⟨⟨by omega, by omega⟩, by omega, by omega⟩ h
/-- A cell of a list of valid rectangles: one of them holds it. -/
theorem hasB_cov {P Q R S : Nat → Int} {n : Nat} (hv : ∀ i, i < n → rvB (P i) (Q i) (R i) (S i) = true) (x y : Int) : hasB (covF P Q R S n) x y = covB P Q R S x y n := by
  by_cases h : (-40 ≤ x ∧ x ≤ 39) ∧ (-40 ≤ y ∧ y ≤ 39)
  · rw [hasB_in h, covF_at _ _ _ _ _ h.1.1 h.1.2 h.2.1 h.2.2]
  · rw [hasB_out h, covB_out h hv]
theorem covB_t {P Q R S : Nat → Int} {x y : Int} : ∀ {n : Nat}, covB P Q R S x y n = true ↔ ∃ i, i < n ∧ P i ≤ x ∧ x < R i ∧ Q i ≤ y ∧ y < S i
  | 0 => by simp [covB]
  | n + 1 => by
    rw [covB, Bool.or_eq_true, covB_t]
    constructor
    · rintro (⟨i, h, k⟩ | h)
      · exact ⟨i, by omega, k⟩
      · simp only [Bool.and_eq_true, decide_eq_true_eq] at h
        exact ⟨n, by omega, h.1.1.1, h.1.1.2, h.1.2, h.2⟩
    · rintro ⟨i, h, k1, k2, k3, k4⟩
      by_cases e : i = n
      · subst e; right; simp [k1, k2, k3, k4]
      · exact .inl ⟨i, by omega, k1, k2, k3, k4⟩
/-- The part of a rectangle inside another one. -/
def cutR (a b c d : Int) (r : R4) : R4 := ⟨max r.a a, max r.b b, min r.c c, min r.d d⟩
theorem inR_append (l l' : List R4) (x y : Int) : inR (l ++ l') x y = (inR l x y || inR l' x y) := by unfold inR; rw [List.any_append]
theorem inR_cut (a b c d x y : Int) : ∀ l : List R4, inR (l.map (cutR a b c d)) x y = (inR l x y && (decide (a ≤ x) && decide (x < c) && decide (b ≤ y) && decide (y < d)))
  | [] => rfl
  | r :: l => by
    have ih := inR_cut a b c d x y l
    unfold inR at ih ⊢
    rw [List.map_cons, List.any_cons, List.any_cons, ih, Bool.and_or_distrib_right]
    congr 1
    have e1 : decide ((cutR a b c d r).a ≤ x) = (decide (r.a ≤ x) && decide (a ≤ x)) := by rw [← Bool.decide_and]; exact decide_eq_decide.2 (by unfold cutR; simp; omega)
    have e2 : decide (x < (cutR a b c d r).c) = (decide (x < r.c) && decide (x < c)) := by rw [← Bool.decide_and]; exact decide_eq_decide.2 (by unfold cutR; simp; omega)
    have e3 : decide ((cutR a b c d r).b ≤ y) = (decide (r.b ≤ y) && decide (b ≤ y)) := by rw [← Bool.decide_and]; exact decide_eq_decide.2 (by unfold cutR; simp; omega)
    have e4 : decide (y < (cutR a b c d r).d) = (decide (y < r.d) && decide (y < d)) := by rw [← Bool.decide_and]; exact decide_eq_decide.2 (by unfold cutR; simp; omega)
    rw [e1, e2, e3, e4]
    cases decide (r.a ≤ x) <;> cases decide (a ≤ x) <;> cases decide (x < r.c) <;> cases decide (x < c) <;> cases decide (r.b ≤ y) <;> cases decide (b ≤ y) <;> cases decide (y < r.d) <;> cases decide (y < d) <;> rfl
/-- Empty rectangles hold no cell. -/
theorem inR_drop (x y : Int) : ∀ l : List R4, inR (l.filter fun r => decide (r.a < r.c) && decide (r.b < r.d)) x y = inR l x y
  | [] => rfl
  | r :: l => by
    have ih := inR_drop x y l
    rw [List.filter_cons]
    by_cases h : (decide (r.a < r.c) && decide (r.b < r.d)) = true
    · rw [if_pos h]; unfold inR at ih ⊢; rw [List.any_cons, List.any_cons, ih]
    · rw [if_neg h, ih]
      unfold inR
      rw [List.any_cons]
      have : (decide (r.a ≤ x) && decide (x < r.c) && decide (r.b ≤ y) && decide (y < r.d)) = false := by
        cases hc : (decide (r.a ≤ x) && decide (x < r.c) && decide (r.b ≤ y) && decide (y < r.d)) with
        | false => rfl
        | true =>
          simp only [Bool.and_eq_true, decide_eq_true_eq] at hc h
          exact absurd ⟨by omega, by omega⟩ h
      rw [this]; rfl
/-- Two sets with the same cells have the same region. -/
theorem canonL_same {f g : Nat → Bool} (h : ∀ x y, -40 ≤ x → x ≤ 39 → -40 ≤ y → y ≤ 39 → hasB f x y = hasB g x y) : canonL f = canonL g := canonL_congr fun k hk => by
  obtain ⟨x, y, hxy, rfl⟩ := cIx_of hk
  have := h x y hxy.1.1 hxy.1.2 hxy.2.1 hxy.2.2
  rwa [hasB_in hxy, hasB_in hxy] at this
/-- Two regions with the same cells are the same list. -/
theorem okR_same {P Q R S P' Q' R' S' : Nat → Int} {n n' : Nat} (h : okR P Q R S n = true) (h' : okR P' Q' R' S' n' = true) (hc : ∀ x y, covB P Q R S x y n = covB P' Q' R' S' x y n') : listR P Q R S n = listR P' Q' R' S' n' := by
  rw [← okR_canon h, ← okR_canon h']
  exact canonL_same fun x y _ _ _ _ => by rw [hasB_cov (okR_all h), hasB_cov (okR_all h'), hc]
theorem hasB_clip (f : Nat → Bool) (a b c d x y : Int) (h : (-40 ≤ x ∧ x ≤ 39) ∧ (-40 ≤ y ∧ y ≤ 39)) : hasB (clipF f a b c d) x y = (hasB f x y && (decide (a ≤ x) && decide (x < c) && decide (b ≤ y) && decide (y < d))) := by
  rw [hasB_in h, hasB_in h]
  unfold clipF fC
  obtain ⟨e1, e2⟩ := cIx_back h.1.1 h.1.2 h.2.1 h.2.2
  rw [e1, e2]
end Go.Proofs.YtciodcknobccdaaDoor
