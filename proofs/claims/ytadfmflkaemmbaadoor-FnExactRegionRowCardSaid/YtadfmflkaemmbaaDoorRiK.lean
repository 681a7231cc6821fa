/- When two rows of words are equal. No run, no condition. -/
import Derived.Test.YtadfmflkaemmbaaDoorRiJ
namespace Go.Proofs.YtadfmflkaemmbaaDoor
open Go.RowKit
set_option linter.unusedVariables false
set_option linter.unusedSimpArgs false

/-- The words are those of the set f. -/
structure RowsOK (f : Nat → Bool) (G : Nat → Nat) : Prop where
  word : ∀ j, W64 (G j)
  high : ∀ i, i < 80 → G (i * 2 + 1) < 65536
  bits : ∀ i, i < 80 → ∀ c : Nat, c < 80 → colB (G (i * 2)) (G (i * 2 + 1)) c = hasB f ((c : Int) - 40) ((i : Int) - 40)

theorem runsTo_row {f : Nat → Bool} {y z : Int} (h : ∀ x, hasB f x y = hasB f x z) : ∀ n, runsTo f y n = runsTo f z n
  | 0 => rfl
  | n + 1 => by
    have e : chg f (-40 + (n : Int)) y = chg f (-40 + (n : Int)) z := by unfold chg; rw [h, h]
    rw [runsTo, runsTo, runsTo_row h n, e]
theorem runsL_row {f : Nat → Bool} {y z : Int} (h : ∀ x, hasB f x y = hasB f x z) : runsL f y = runsL f z := runsTo_row h 81

theorem tb0 {a n c : Nat} (h : a < 2 ^ n) (hn : n ≤ c) : a.testBit c = false := Nat.testBit_lt_two_pow (Nat.lt_of_lt_of_le h (Nat.pow_le_pow_right (by decide) hn))
theorem rows_eq {f : Nat → Bool} {G : Nat → Nat} (h : RowsOK f G) {i t : Nat} (hi : i < 80) (ht : t < 80) :
    (G (t * 2) = G (i * 2) ∧ G (t * 2 + 1) = G (i * 2 + 1)) ↔ runsL f ((t : Int) - 40) = runsL f ((i : Int) - 40) := by
  constructor
  · rintro ⟨e1, e2⟩
    refine runsL_row fun x => ?_
    by_cases hx : -40 ≤ x ∧ x ≤ 39
    · have h1 := h.bits t ht (x + 40).toNat (by omega)
      have h2 := h.bits i hi (x + 40).toNat (by omega)
      rw [e1, e2, h2] at h1
      rw [show (((x + 40).toNat : Nat) : Int) - 40 = x by omega] at h1
      exact h1.symm
    · rw [hasB_out (by omega), hasB_out (by omega)]
  · intro e
    have hb : ∀ c : Nat, c < 80 → colB (G (t * 2)) (G (t * 2 + 1)) c = colB (G (i * 2)) (G (i * 2 + 1)) c := fun c hc => by
      rw [h.bits t ht c hc, h.bits i hi c hc, ← inP_runs f _ _ (by omega) (by omega), ← inP_runs f _ _ (by omega) (by omega), e]
    constructor
    · apply Nat.eq_of_testBit_eq
      intro c
      by_cases hc : c < 64
      · have := hb c (by omega)
        unfold colB at this
        rwa [if_pos hc, if_pos hc] at this
      · rw [tb0 (n := 64) (h.word _) (by omega), tb0 (n := 64) (h.word _) (by omega)]
    · apply Nat.eq_of_testBit_eq
      intro c
      by_cases hc : c < 16
      · have := hb (c + 64) (by omega)
        unfold colB at this
        rwa [if_neg (by omega), if_neg (by omega), Nat.add_sub_cancel] at this
      · rw [tb0 (n := 16) (h.high t ht) (by omega), tb0 (n := 16) (h.high i hi) (by omega)]

theorem getD_some {l : List R4} {j : Nat} {r : R4} (h : l[j]? = some r) : l = l.take j ++ r :: l.drop (j + 1) := by
  obtain ⟨hj, e⟩ := List.getElem?_eq_some_iff.1 h
  rw [← e, List.getElem_cons_drop, List.take_append_drop]
end Go.Proofs.YtadfmflkaemmbaaDoor
