/- The canonical list's rows, cells and area. No program's run in it. -/
import Derived.Test.YtadfmflkaemmbaaDoorRgH
namespace Go.Proofs.YtadfmflkaemmbaaDoor
open Go.RowKit
set_option linter.unusedVariables false
set_option linter.unusedSimpArgs false

/-- The parity of a row's changes so far says whether the cell is set. -/
theorem runsTo_par (f : Nat → Bool) (y : Int) : ∀ k : Nat, k ≤ 81 → (hasB f (-40 + (k : Int) - 1) y = true ↔ (runsTo f y k).length % 2 = 1)
  | 0, _ => by
    rw [hasB_out (by omega)]; simp [runsTo]
  | k + 1, hk => by
    have ih := runsTo_par f y k (by omega)
    rw [show (-40 + ((k + 1 : Nat) : Int) - 1) = -40 + (k : Int) by omega]
    cases hc : chg f (-40 + (k : Int)) y with
    | true =>
      rw [runsTo_yes hc, List.length_append]
      unfold chg at hc
      cases h1 : hasB f (-40 + (k : Int)) y <;> cases h2 : hasB f (-40 + (k : Int) - 1) y <;> rw [h1, h2] at hc <;> rw [h2] at ih <;> simp at hc ih ⊢ <;> omega
    | false =>
      rw [runsTo_no hc]
      unfold chg at hc
      cases h1 : hasB f (-40 + (k : Int)) y <;> cases h2 : hasB f (-40 + (k : Int) - 1) y <;> rw [h1, h2] at hc <;> rw [h2] at ih <;> simp at hc ih ⊢ <;> omega
theorem runsL_even (f : Nat → Bool) (y : Int) : (runsL f y).length % 2 = 0 := by
  have h := runsTo_par f y 81 (Nat.le_refl _)
  rw [hasB_out (by omega)] at h
  have : ¬ (runsTo f y 81).length % 2 = 1 := fun e => by have := h.2 e; cases this
  unfold runsL; omega
/-- The ends of the rectangles of list l that meet row y. -/
def rowL (l : List R4) (y : Int) : List Int := l.flatMap fun r => if r.b ≤ y ∧ y < r.d then [r.a, r.c] else []
theorem rowL_append (l l' : List R4) (y : Int) : rowL (l ++ l') y = rowL l y ++ rowL l' y := by unfold rowL; rw [List.flatMap_append]
theorem rowL_pairs_in (b d y : Int) (h : b ≤ y ∧ y < d) : ∀ l : List Int, l.length % 2 = 0 → rowL (pairsR b d l) y = l
  | [], _ => rfl
  | [a], h' => by simp at h'
  | a :: c :: l, h' => by
    have ih := rowL_pairs_in b d y h l (by simp at h'; omega)
    unfold rowL at ih ⊢
    rw [pairsR, List.flatMap_cons, ih]
    simp [h]
theorem rowL_pairs_out (b d y : Int) (h : ¬ (b ≤ y ∧ y < d)) : ∀ l : List Int, rowL (pairsR b d l) y = []
  | [] => rfl
  | [a] => rfl
  | a :: c :: l => by
    have ih := rowL_pairs_out b d y h l
    unfold rowL at ih ⊢
    rw [pairsR, List.flatMap_cons, ih, if_neg h]; rfl
theorem bandE_runs (f : Nat → Bool) (y : Int) : ∀ (n : Nat) (e : Int), (∀ z, y ≤ z → z < e → runsL f z = runsL f y) → ∀ z, y ≤ z → z < bandE f y n e → runsL f z = runsL f y
  | 0, e, h => h
  | n + 1, e, h => by
    rw [bandE]
    split
    · rename_i h'
      refine bandE_runs f y n (e + 1) fun z z1 z2 => ?_
      by_cases hz : z < e
      · exact h z z1 hz
      · obtain rfl : z = e := by omega
        exact h'.2
    · exact h
theorem canonF_low (f : Nat → Bool) (y : Int) : ∀ (n : Nat) (b : Int), y < b → rowL (canonF f n b) y = []
  | 0, b, _ => rfl
  | n + 1, b, h => by
    rw [canonF]
    split
    · have := bandE_ge f b 80 (b + 1)
      rw [rowL_append, rowL_pairs_out _ _ _ (by omega), canonF_low f y n _ (by omega)]; rfl
    · rfl
theorem canonF_row (f : Nat → Bool) (y : Int) (hy : y < 40) : ∀ (n : Nat) (b : Int), b ≤ y → 40 - b ≤ n → rowL (canonF f n b) y = runsL f y
  | 0, b, h, hn => by omega
  | n + 1, b, h, hn => by
    have hge := bandE_ge f b 80 (b + 1)
    rw [canonF, if_pos (by omega), rowL_append]
    by_cases hb : y < bandE f b 80 (b + 1)
    · rw [rowL_pairs_in _ _ _ ⟨h, hb⟩ _ (runsL_even f b), canonF_low f y n _ hb, List.append_nil]
      exact (bandE_runs f b 80 (b + 1) (fun z z1 z2 => by rw [show z = b by omega]) y h hb).symm
    · rw [rowL_pairs_out _ _ _ (by omega), canonF_row f y hy n _ (by omega) (by omega)]; rfl
/-- The canonical list's rectangles that meet a row are the row's runs. -/
theorem canonL_row (f : Nat → Bool) (y : Int) (h1 : -40 ≤ y) (h2 : y < 40) : rowL (canonL f) y = runsL f y := canonF_row f y h2 80 (-40) h1 (by omega)
theorem rowL_out (f : Nat → Bool) (y : Int) (h : y < -40) : rowL (canonL f) y = [] := canonF_low f y 80 (-40) (by omega)
end Go.Proofs.YtadfmflkaemmbaaDoor
