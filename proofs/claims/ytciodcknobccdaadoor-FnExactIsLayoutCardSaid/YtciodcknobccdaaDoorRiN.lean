/- What the rows of the bands of a list cover; the set of cells that they make. No run; the rectangles are valid. -/
import Derived.Test.YtciodcknobccdaaDoorRiJ
namespace Go.Proofs.YtciodcknobccdaaDoor
open Go.RowKit
set_option linter.unusedVariables false
set_option linter.unusedSimpArgs false

theorem colB_or (A B C D c : Nat) : colB (A ||| C) (B ||| D) c = (colB A B c || colB C D c) := by
  unfold colB
  split <;> rw [Nat.testBit_or]
theorem col_span (p r x : Int) (h1 : -40 ≤ p) (h2 : r ≤ 40) (hx : -40 ≤ x ∧ x ≤ 39) : colB (span (lo0 p) (lo0 r)) (span (lo1 p) (lo1 r)) (x + 40).toNat = (decide (p ≤ x) && decide (x < r)) := by
  unfold colB
  by_cases h : (x + 40).toNat < 64
  · rw [if_pos h, span_bit (lo0_le _) (lo0_le _)]
    unfold lo0
    rw [Bool.eq_iff_iff]
    simp only [Bool.and_eq_true, decide_eq_true_eq]
    omega
  · by_cases hp : p ≤ 40
    · rw [if_neg h, span_bit (by have := lo1_le hp; omega) (by have := lo1_le h2; omega)]
      unfold lo1
      rw [Bool.eq_iff_iff]
      simp only [Bool.and_eq_true, decide_eq_true_eq]
      omega
    · have e : span (lo1 p) (lo1 r) = 0 := by
        apply Nat.eq_of_testBit_eq
        intro i
        unfold span
        rw [Nat.testBit_and, mk_bit]
        by_cases hi : i < lo1 r
        · have h3 : mk (lo1 p) &&& (18446744073709551615 - mk (lo1 p)) = 0 ∨ True := .inr trivial
          have := lo1_le h2
          have h5 : lo1 r ≤ lo1 p := by unfold lo1; omega
          have h6 : (18446744073709551615 - mk (lo1 p)).testBit i = false ∨ 64 < lo1 p := by
            by_cases h7 : lo1 p ≤ 64
            · left
              rw [not_bit (mk_lt h7), mk_bit]
              simp
              omega
            · right; omega
          rcases h6 with h6 | h6
          · simp [h6]
          · have h8 : 18446744073709551615 - mk (lo1 p) = 0 := by
              have : 2 ^ 64 ≤ 2 ^ lo1 p := Nat.pow_le_pow_right (by decide) (by omega)
              unfold mk
              omega
            simp [h8]
        · simp [hi]
      rw [if_neg h, e]
      simp
      omega

theorem col_cov (P R : Nat → Int) (x : Int) (hx : -40 ≤ x ∧ x ≤ 39) : ∀ n, (∀ i, i < n → -40 ≤ P i ∧ R i ≤ 40) → (colB (cA P R n) (cB P R n) (x + 40).toNat = true ↔ ∃ i, i < n ∧ P i ≤ x ∧ x < R i)
  | 0, _ => by
    simp [colB, cA, cB]
  | n + 1, h => by
    have ih := col_cov P R x hx n fun i hi => h i (by omega)
    rw [cA, cB, colB_or, Bool.or_eq_true, ih, col_span _ _ _ (h n (by omega)).1 (h n (by omega)).2 hx]
    simp only [Bool.and_eq_true, decide_eq_true_eq]
    constructor
    · rintro (⟨i, h1, h2⟩ | h1)
      · exact ⟨i, by omega, h2⟩
      · exact ⟨n, by omega, h1⟩
    · rintro ⟨i, h1, h2⟩
      by_cases e : i = n
      · exact .inr (e ▸ h2)
      · exact .inl ⟨i, by omega, h2⟩

/-- The rows of the list cover what its rectangles cover. -/
theorem rowsQ_cov (x y : Int) (hx : -40 ≤ x ∧ x ≤ 39) : ∀ (f : Nat) (P Q R S : Nat → Int) (n : Nat), n ≤ f → (∀ i, i < n → rvB (P i) (Q i) (R i) (S i) = true) →
    ((∃ e, e ∈ rowsQ f P Q R S n ∧ e.1 = y ∧ colB e.2.1 e.2.2 (x + 40).toNat = true) ↔ ∃ i, i < n ∧ P i ≤ x ∧ x < R i ∧ Q i ≤ y ∧ y < S i)
  | 0, P, Q, R, S, n, hn, _ => by
    obtain rfl : n = 0 := by omega
    simp [rowsQ]
  | f + 1, P, Q, R, S, n, hn, hv => by
    rw [rowsQ]
    by_cases h0 : n = 0
    · subst h0
      simp
    · rw [if_neg h0]
      obtain ⟨hN1, hN2, hN3⟩ := bandN_spec Q S n n 1 (by omega)
      generalize bandN Q S n n 1 = N at hN1 hN2 hN3
      have ih := rowsQ_cov x y hx f (shN N P) (shN N Q) (shN N R) (shN N S) (n - N) (by omega) (fun i hi => hv (N + i) (by omega))
      have hband : ∀ i, i < N → Q i = Q 0 ∧ S i = S 0 := fun i hi => by
        by_cases e : i = 0
        · rw [e]; exact ⟨rfl, rfl⟩
        · exact hN3 i (by omega) hi
      have hc := col_cov P R x hx N fun i hi => by have := rvB_t (hv i (by omega)); omega
      have v0 := rvB_t (hv 0 (by omega))
      constructor
      · rintro ⟨e, he, h1, h2⟩
        rcases List.mem_append.1 he with he | he
        · obtain ⟨j, hj, rfl⟩ := List.mem_map.1 he
          have hj' := List.mem_range.1 hj
          obtain ⟨i, i1, i2, i3⟩ := hc.1 h2
          obtain ⟨q1, q2⟩ := hband i i1
          dsimp only at h1
          exact ⟨i, by omega, i2, i3, by omega, by omega⟩
        · obtain ⟨i, i1, i2⟩ := ih.1 ⟨e, he, h1, h2⟩
          exact ⟨N + i, by omega, i2⟩
      · rintro ⟨i, i1, i2, i3, i4, i5⟩
        by_cases hi : i < N
        · obtain ⟨q1, q2⟩ := hband i hi
          refine ⟨(y, cA P R N, cB P R N), List.mem_append_left _ (List.mem_map.2 ⟨(y - Q 0).toNat, List.mem_range.2 (by omega), ?_⟩), rfl, hc.2 ⟨i, hi, i2, i3⟩⟩
          rw [show Q 0 + ((y - Q 0).toNat : Int) = y by omega]
        · obtain ⟨e, he, h1⟩ := ih.2 ⟨i - N, by omega, by unfold shN; rw [show N + (i - N) = i by omega]; exact ⟨i2, i3, i4, i5⟩⟩
          exact ⟨e, List.mem_append_right _ he, h1⟩
theorem rowsQ_ok : ∀ (f : Nat) (P Q R S : Nat → Int) (n : Nat), (∀ i, i < n → rvB (P i) (Q i) (R i) (S i) = true) → ∀ e, e ∈ rowsQ f P Q R S n → (-40 ≤ e.1 ∧ e.1 ≤ 39) ∧ W64 e.2.1 ∧ e.2.2 < 65536
  | 0, P, Q, R, S, n, _, e, he => by simp [rowsQ] at he
  | f + 1, P, Q, R, S, n, hv, e, he => by
    rw [rowsQ] at he
    by_cases h0 : n = 0
    · rw [if_pos h0] at he; simp at he
    · rw [if_neg h0] at he
      obtain ⟨hN1, hN2, hN3⟩ := bandN_spec Q S n n 1 (by omega)
      generalize bandN Q S n n 1 = N at hN1 hN2 hN3 he
      rcases List.mem_append.1 he with he | he
      · obtain ⟨j, hj, rfl⟩ := List.mem_map.1 he
        have hj' := List.mem_range.1 hj
        have v0 := rvB_t (hv 0 (by omega))
        refine ⟨by dsimp only; omega, cA_lt P R N, cB_lt P R N fun i hi => by have := rvB_t (hv i (by omega)); omega⟩
      · exact rowsQ_ok f _ _ _ _ _ (fun i hi => hv (N + i) (by omega)) e he

/-- The words of the rows that have come. -/
def rowsG (L : List RowE) : Nat → Nat := L.foldl (fun G e => addR G (e.1 + 40).toNat e.2.1 e.2.2) (fun _ => 0)
theorem rowsG_snoc (L : List RowE) (e : RowE) : rowsG (L ++ [e]) = addR (rowsG L) (e.1 + 40).toNat e.2.1 e.2.2 := by unfold rowsG; rw [List.foldl_append]; rfl
theorem addR_word {G : Nat → Nat} {i A B : Nat} (hG : ∀ j, W64 (G j)) (hA : W64 A) (hB : W64 B) : ∀ j, W64 (addR G i A B j) := fun j => by
  unfold addR upd
  split
  · exact Nat.or_lt_two_pow (n := 64) (hG _) hB
  · split
    · exact Nat.or_lt_two_pow (n := 64) (hG _) hA
    · exact hG _
theorem addR_even (G : Nat → Nat) (i A B k : Nat) : addR G i A B (k * 2) = if k = i then G (k * 2) ||| A else G (k * 2) := by
  unfold addR upd
  rw [if_neg (by omega)]
  by_cases h : k = i
  · subst h; simp
  · rw [if_neg (by omega), if_neg h]
theorem addR_odd (G : Nat → Nat) (i A B k : Nat) : addR G i A B (k * 2 + 1) = if k = i then G (k * 2 + 1) ||| B else G (k * 2 + 1) := by
  unfold addR upd
  by_cases h : k = i
  · subst h
    rw [if_pos rfl, if_pos rfl]
  · rw [if_neg (by omega), if_neg (by omega), if_neg h]

theorem rowsG_ok (c : Nat) : ∀ (L : List RowE), (∀ e, e ∈ L → (-40 ≤ e.1 ∧ e.1 ≤ 39) ∧ W64 e.2.1 ∧ e.2.2 < 65536) →
    (∀ j, W64 (rowsG L j)) ∧ (∀ i, rowsG L (i * 2 + 1) < 65536) ∧ ∀ i : Nat, (colB (rowsG L (i * 2)) (rowsG L (i * 2 + 1)) c = true ↔ ∃ e, e ∈ L ∧ e.1 = (i : Int) - 40 ∧ colB e.2.1 e.2.2 c = true) := by
  intro L
  rw [← List.reverse_reverse L]
  generalize L.reverse = M
  induction M with
  | nil => intro _; exact ⟨fun j => by unfold W64 rowsG; simp, fun i => by unfold rowsG; simp, fun i => by simp [rowsG, colB]⟩
  | cons e M ih =>
    rw [List.reverse_cons]
    generalize M.reverse = L at ih
    intro h
    obtain ⟨h1, h2, h3⟩ := ih fun e' he => h e' (by simp [he])
    obtain ⟨v1, v2, v3⟩ := h e (by simp)
    rw [rowsG_snoc]
    refine ⟨addR_word h1 v2 (by unfold W64; omega), fun i => ?_, fun i => ?_⟩
    · rw [addR_odd]
      split
      · exact Nat.or_lt_two_pow (n := 16) (h2 i) v3
      · exact h2 i
    · rw [addR_even, addR_odd]
      by_cases hi : i = (e.1 + 40).toNat
      · rw [if_pos hi, if_pos hi, colB_or, Bool.or_eq_true, h3]
        constructor
        · rintro (⟨e', a, b⟩ | a)
          · exact ⟨e', by simp [a], b⟩
          · exact ⟨e, by simp, by omega, a⟩
        · rintro ⟨e', a, b, d⟩
          rcases List.mem_append.1 a with a | a
          · exact .inl ⟨e', a, b, d⟩
          · rw [List.mem_singleton.1 a] at d
            exact .inr d
      · rw [if_neg hi, if_neg hi, h3]
        constructor
        · rintro ⟨e', a, b⟩
          exact ⟨e', by simp [a], b⟩
        · rintro ⟨e', a, b, d⟩
          rcases List.mem_append.1 a with a | a
          · exact ⟨e', a, b, d⟩
          · rw [List.mem_singleton.1 a] at b
            omega

/-- The set that the program makes of a list. -/
theorem rows_of_list {P Q R S : Nat → Int} {n f : Nat} (hn : n ≤ f) (hv : ∀ i, i < n → rvB (P i) (Q i) (R i) (S i) = true) : RowsOK (covF P Q R S n) (rowsG (rowsQ f P Q R S n)) := by
  have hk := rowsQ_ok f P Q R S n hv
  refine ⟨(rowsG_ok 0 _ hk).1, fun i _ => (rowsG_ok 0 _ hk).2.1 i, fun i hi c hc => ?_⟩
  rw [Bool.eq_iff_iff, (rowsG_ok c _ hk).2.2 i, hasB_cov hv, covB_t]
  have := rowsQ_cov ((c : Int) - 40) ((i : Int) - 40) (by omega) f P Q R S n hn hv
  rw [show ((c : Int) - 40 + 40).toNat = c by omega] at this
  exact this
end Go.Proofs.YtciodcknobccdaaDoor
