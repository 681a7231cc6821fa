/- The canonical list covers the cells that are set, and no others. No program's run in it. -/
import Derived.Test.YtadfmflkaemmbaaDoorRgW
namespace Go.Proofs.YtadfmflkaemmbaaDoor
open Go.RowKit
set_option linter.unusedVariables false
set_option linter.unusedSimpArgs false

/-- Does x lie in one of the runs, whose starts and ends the list holds? -/
def inP (x : Int) : List Int → Bool
  | a :: c :: l => (decide (a ≤ x) && decide (x < c)) || inP x l
  | [a] => decide (a ≤ x)
  | [] => false
theorem inP_all (v : Int) : ∀ l : List Int, (∀ u, u ∈ l → u ≤ v) → inP v l = decide (l.length % 2 = 1)
  | [], _ => rfl
  | [a], h => by have := h a (by simp); simp [inP, this]
  | a :: c :: l, h => by
    have ih := inP_all v l (fun u hu => h u (by simp [hu]))
    have := h c (by simp)
    rw [inP, ih, show decide (v < c) = false by simp; omega]
    rw [Bool.and_false, Bool.false_or]
    exact decide_eq_decide.2 (by simp only [List.length_cons]; omega)
theorem inP_snoc (x v : Int) (h : x < v) : ∀ l : List Int, inP x (l ++ [v]) = inP x l
  | [] => by simp [inP]; omega
  | [a] => by simp [inP, h]
  | a :: c :: l => by
    have ih := inP_snoc x v h l
    rw [List.cons_append, List.cons_append, inP, inP, ih]
theorem inP_runsTo (f : Nat → Bool) (y : Int) : ∀ (k : Nat), k ≤ 81 → ∀ x : Int, -40 ≤ x → x < -40 + k → inP x (runsTo f y k) = hasB f x y
  | 0, _, x, h1, h2 => by omega
  | k + 1, hk, x, h1, h2 => by
    have ih := inP_runsTo f y k (by omega)
    by_cases hx : x < -40 + (k : Int)
    · rw [← ih x h1 hx, runsTo]
      split
      · exact inP_snoc _ _ hx _
      · rfl
    · obtain rfl : x = -40 + (k : Int) := by omega
      rw [inP_all _ _ (fun u hu => by have := runsTo_mem f y (k + 1) u hu; omega)]
      have hp := runsTo_par f y (k + 1) hk
      rw [show (-40 + ((k + 1 : Nat) : Int) - 1) = -40 + (k : Int) by omega] at hp
      cases hb : hasB f (-40 + (k : Int)) y with
      | true => exact decide_eq_true (hp.1 hb)
      | false => exact decide_eq_false (fun e => by rw [hp.2 e] at hb; cases hb)
theorem inP_runs (f : Nat → Bool) (x y : Int) (h1 : -40 ≤ x) (h2 : x ≤ 39) : inP x (runsL f y) = hasB f x y := inP_runsTo f y 81 (Nat.le_refl _) x h1 (by omega)
/-- Does a rectangle of the list hold the cell? -/
def inR (l : List R4) (x y : Int) : Bool := l.any fun r => decide (r.a ≤ x) && decide (x < r.c) && decide (r.b ≤ y) && decide (y < r.d)
theorem inP_rowL (x y : Int) : ∀ l : List R4, inP x (rowL l y) = inR l x y
  | [] => rfl
  | r :: l => by
    have ih := inP_rowL x y l
    unfold rowL inR at ih ⊢
    rw [List.flatMap_cons, List.any_cons, ← ih]
    split
    · rename_i h
      rw [List.cons_append, List.cons_append, List.nil_append, inP, decide_eq_true h.1, decide_eq_true h.2]
      simp
    · rename_i h
      have : (decide (r.b ≤ y) && decide (y < r.d)) = false := by
        by_cases h1 : r.b ≤ y
        · rw [decide_eq_false (fun e => h ⟨h1, e⟩), Bool.and_false]
        · rw [decide_eq_false h1, Bool.false_and]
      rw [Bool.and_assoc, this]
      simp
theorem inR_canonL (f : Nat → Bool) (x y : Int) (h : (-40 ≤ x ∧ x ≤ 39) ∧ (-40 ≤ y ∧ y ≤ 39)) : inR (canonL f) x y = hasB f x y := by
  rw [← inP_rowL, canonL_row f y h.2.1 (by omega), inP_runs f x y h.1.1 h.1.2]
theorem covB_listR (P Q R S : Nat → Int) (x y : Int) : ∀ n, inR (listR P Q R S n) x y = covB P Q R S x y n
  | 0 => rfl
  | n + 1 => by
    have ih := covB_listR P Q R S x y n
    unfold inR listR at ih ⊢
    rw [List.range_succ, List.map_append, List.any_append, ih, covB]
    simp
theorem listR_pA : ∀ l : List R4, listR (pA l) (pB l) (pC l) (pD l) l.length = l := fun l => by
  refine ext_R4 (by simp [listR]) fun j hj => ?_
  rw [listR_len] at hj
  rw [listR_getD _ _ _ _ _ _ hj]
  rfl
theorem covB_pA (l : List R4) (x y : Int) : covB (pA l) (pB l) (pC l) (pD l) x y l.length = inR l x y := by
  rw [← covB_listR, listR_pA]
/-- The canonical list of a set covers the set. -/
theorem cov_canonL (f : Nat → Bool) (x y : Int) (h : (-40 ≤ x ∧ x ≤ 39) ∧ (-40 ≤ y ∧ y ≤ 39)) : covF (pA (canonL f)) (pB (canonL f)) (pC (canonL f)) (pD (canonL f)) (canonL f).length (cIx x y) = f (cIx x y) := by
  rw [covF_at _ _ _ _ _ h.1.1 h.1.2 h.2.1 h.2.2, covB_pA, inR_canonL f x y h, hasB_in h]
theorem cIx_of {k : Nat} (hk : k < 6400) : ∃ x y : Int, ((-40 ≤ x ∧ x ≤ 39) ∧ (-40 ≤ y ∧ y ≤ 39)) ∧ k = cIx x y := by
  refine ⟨(k % 80 : Nat) - 40, (k / 80 : Nat) - 40, by omega, ?_⟩
  unfold cIx; omega
theorem cov_canonL_all (f : Nat → Bool) {k : Nat} (hk : k < 6400) : covF (pA (canonL f)) (pB (canonL f)) (pC (canonL f)) (pD (canonL f)) (canonL f).length k = f k := by
  obtain ⟨x, y, h, rfl⟩ := cIx_of hk
  exact cov_canonL f x y h
/-- Equal cells, equal lists. -/
theorem hasB_congr {f g : Nat → Bool} (h : ∀ k, k < 6400 → f k = g k) (x y : Int) : hasB f x y = hasB g x y := by
  unfold hasB
  cases hc : inC x y with
  | false => rfl
  | true =>
    obtain ⟨⟨h1, h2⟩, h3, h4⟩ := inC_t hc
    rw [h _ (cIx_lt h1 h2 h3 h4)]
theorem runsTo_congr {f g : Nat → Bool} (h : ∀ k, k < 6400 → f k = g k) (y : Int) : ∀ n, runsTo f y n = runsTo g y n
  | 0 => rfl
  | n + 1 => by
    have ih := runsTo_congr h y n
    rw [runsTo, runsTo, ih]
    unfold chg
    rw [hasB_congr h, hasB_congr h]
theorem runsL_congr {f g : Nat → Bool} (h : ∀ k, k < 6400 → f k = g k) (y : Int) : runsL f y = runsL g y := runsTo_congr h y 81
theorem bandE_congr {f g : Nat → Bool} (h : ∀ k, k < 6400 → f k = g k) (y : Int) : ∀ (n : Nat) (e : Int), bandE f y n e = bandE g y n e
  | 0, e => rfl
  | n + 1, e => by
    rw [bandE, bandE, runsL_congr h, runsL_congr h, bandE_congr h y n (e + 1)]
theorem canonF_congr {f g : Nat → Bool} (h : ∀ k, k < 6400 → f k = g k) : ∀ (n : Nat) (y : Int), canonF f n y = canonF g n y
  | 0, y => rfl
  | n + 1, y => by
    rw [canonF, canonF, bandE_congr h, runsL_congr h, canonF_congr h n]
theorem canonL_congr {f g : Nat → Bool} (h : ∀ k, k < 6400 → f k = g k) : canonL f = canonL g := canonF_congr h 80 (-40)
/-- The region of a region's cells is the region. -/
theorem canonL_cov (f : Nat → Bool) : canonL (covF (pA (canonL f)) (pB (canonL f)) (pC (canonL f)) (pD (canonL f)) (canonL f).length) = canonL f := canonL_congr fun k hk => cov_canonL_all f hk
end Go.Proofs.YtadfmflkaemmbaaDoor
