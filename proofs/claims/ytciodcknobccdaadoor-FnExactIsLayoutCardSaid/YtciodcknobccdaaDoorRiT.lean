/- The rows of a region's list: each comes once, with all its columns. -/
import Derived.Test.YtciodcknobccdaaDoorRiN
import Derived.Test.YtciodcknobccdaaDoorRhC
namespace Go.Proofs.YtciodcknobccdaaDoor
open Go.RowKit
set_option linter.unusedVariables false

theorem bandN_max (Q S : Nat → Int) (len : Nat) : ∀ n k, len - k ≤ n → bandN Q S len n k < len → ¬ (Q (bandN Q S len n k) = Q 0 ∧ S (bandN Q S len n k) = S 0)
  | 0, k, hk, h => by unfold bandN at h; omega
  | n + 1, k, hk, h => by
    rw [bandN] at h ⊢
    by_cases hc : k < len ∧ Q k = Q 0 ∧ S k = S 0
    · rw [if_pos hc] at h ⊢
      exact bandN_max Q S len n (k + 1) (by omega) h
    · rw [if_neg hc] at h ⊢
      exact fun e => hc ⟨h, e⟩
theorem rowsQ_mem : ∀ (f : Nat) (P Q R S : Nat → Int) (n : Nat) (e : RowE), (∀ i, i < n → rvB (P i) (Q i) (R i) (S i) = true) → e ∈ rowsQ f P Q R S n → ∃ i, i < n ∧ Q i ≤ e.1 ∧ e.1 < S i
  | 0, P, Q, R, S, n, e, _, he => by simp [rowsQ] at he
  | f + 1, P, Q, R, S, n, e, hv, he => by
    rw [rowsQ] at he
    by_cases h0 : n = 0
    · rw [if_pos h0] at he; simp at he
    · rw [if_neg h0] at he
      obtain ⟨hN1, hN2, hN3⟩ := bandN_spec Q S n n 1 (by omega)
      generalize bandN Q S n n 1 = N at hN1 hN2 hN3 he
      rcases List.mem_append.1 he with he | he
      · obtain ⟨j, hj, rfl⟩ := List.mem_map.1 he
        have hj' := List.mem_range.1 hj
        have v0 := rvB_t (hv 0 (by omega))
        exact ⟨0, by omega, by dsimp only; omega, by dsimp only; omega⟩
      · obtain ⟨i, h1, h2, h3⟩ := rowsQ_mem f _ _ _ _ _ e (fun i hi => hv (N + i) (by omega)) he
        exact ⟨N + i, by omega, h2, h3⟩

theorem rowsQ_row (x : Int) (hx : -40 ≤ x ∧ x ≤ 39) : ∀ (f : Nat) (P Q R S : Nat → Int) (n : Nat), n ≤ f → (∀ i, i < n → rvB (P i) (Q i) (R i) (S i) = true) → (∀ i j, i < j → j < n → (Q i = Q j ∧ S i = S j) ∨ S i ≤ Q j) →
    ∀ e, e ∈ rowsQ f P Q R S n → (colB e.2.1 e.2.2 (x + 40).toNat = true ↔ ∃ i, i < n ∧ P i ≤ x ∧ x < R i ∧ Q i ≤ e.1 ∧ e.1 < S i)
  | 0, P, Q, R, S, n, hn, _, _, e, he => by simp [rowsQ] at he
  | f + 1, P, Q, R, S, n, hn, hv, ho, e, he => by
    rw [rowsQ] at he
    by_cases h0 : n = 0
    · rw [if_pos h0] at he; simp at he
    · rw [if_neg h0] at he
      obtain ⟨hN1, hN2, hN3⟩ := bandN_spec Q S n n 1 (by omega)
      have hN4 := bandN_max Q S n n 1 (by omega)
      generalize bandN Q S n n 1 = N at hN1 hN2 hN3 hN4 he
      have ih := rowsQ_row x hx f (shN N P) (shN N Q) (shN N R) (shN N S) (n - N) (by omega) (fun i hi => hv (N + i) (by omega)) (fun i j hij hj => ho (N + i) (N + j) (by omega) (by omega))
      have hband : ∀ i, i < N → Q i = Q 0 ∧ S i = S 0 := fun i hi => by
        by_cases e : i = 0
        · rw [e]; exact ⟨rfl, rfl⟩
        · exact hN3 i (by omega) hi
      have hc := col_cov P R x hx N fun i hi => by have := rvB_t (hv i (by omega)); omega
      have v0 := rvB_t (hv 0 (by omega))
      have hfar : ∀ i, N ≤ i → i < n → S 0 ≤ Q i := fun i h1 h2 => by
        have g1 : S 0 ≤ Q N := by
          rcases ho 0 N (by omega) (by omega) with h | h
          · exact absurd ⟨h.1.symm, h.2.symm⟩ (hN4 (by omega))
          · exact h
        by_cases e : i = N
        · rw [e]; exact g1
        · have vN := rvB_t (hv N (by omega))
          rcases ho N i (by omega) h2 with h | h <;> omega
      rcases List.mem_append.1 he with he | he
      · obtain ⟨j, hj, rfl⟩ := List.mem_map.1 he
        have hj' := List.mem_range.1 hj
        dsimp only
        rw [hc]
        constructor
        · rintro ⟨i, i1, i2, i3⟩
          obtain ⟨q1, q2⟩ := hband i i1
          exact ⟨i, by omega, i2, i3, by omega, by omega⟩
        · rintro ⟨i, i1, i2, i3, i4, i5⟩
          by_cases hi : i < N
          · exact ⟨i, hi, i2, i3⟩
          · have := hfar i (by omega) i1
            omega
      · obtain ⟨i', k1, k2, k3⟩ := rowsQ_mem f _ _ _ _ _ e (fun i hi => hv (N + i) (by omega)) he
        replace k2 : Q (N + i') ≤ e.1 := k2
        replace k3 : e.1 < S (N + i') := k3
        have k4 := hfar (N + i') (by omega) (by omega)
        rw [ih e he]
        constructor
        · rintro ⟨i, i1, i2⟩
          exact ⟨N + i, by omega, i2⟩
        · rintro ⟨i, i1, i2, i3, i4, i5⟩
          by_cases hi : i < N
          · obtain ⟨q1, q2⟩ := hband i hi
            omega
          · exact ⟨i - N, by omega, by unfold shN; rw [show N + (i - N) = i by omega]; exact ⟨i2, i3, i4, i5⟩⟩

/-- A region's row: the words that come with it. -/
theorem rowsQ_has {P Q R S : Nat → Int} {n : Nat} (hok : okR P Q R S n = true) (e : RowE) (he : e ∈ rowsQ n P Q R S n) (c : Nat) (hc : c < 80) : colB e.2.1 e.2.2 c = hasB (covF P Q R S n) ((c : Int) - 40) e.1 := by
  have h := rowsQ_row ((c : Int) - 40) (by omega) n P Q R S n (Nat.le_refl _) (okR_all hok) (fun i j hij hj => (okR_ord hok hij hj).imp (fun h => ⟨h.1, h.2.1⟩) id) e he
  rw [show ((c : Int) - 40 + 40).toNat = c by omega] at h
  rw [Bool.eq_iff_iff, h, hasB_cov (okR_all hok), covB_t]
/-- Every row that a rectangle meets comes. -/
theorem rowsQ_all {P Q R S : Nat → Int} {n : Nat} (hok : okR P Q R S n = true) (y : Int) (hno : ∀ e, e ∈ rowsQ n P Q R S n → e.1 ≠ y) (x : Int) : hasB (covF P Q R S n) x y = false := by
  rw [Bool.eq_false_iff]
  intro h
  rw [hasB_cov (okR_all hok), covB_t] at h
  obtain ⟨i, h1, h2, h3, h4, h5⟩ := h
  have v := rvB_t (okR_all hok i h1)
  obtain ⟨e, he, h6, -⟩ := (rowsQ_cov x y (by omega) n P Q R S n (Nat.le_refl _) (okR_all hok)).2 ⟨i, h1, h2, h3, h4, h5⟩
  exact hno e he h6
end Go.Proofs.YtciodcknobccdaaDoor
