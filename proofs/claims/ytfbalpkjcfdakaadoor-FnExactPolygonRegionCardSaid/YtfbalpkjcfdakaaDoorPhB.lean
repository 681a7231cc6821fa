/- The words of a set of unit cells, one row changed by the columns to the left of an edge. No program's run in it. -/
import Derived.Test.YtfbalpkjcfdakaaDoorPhC
import Derived.Test.YtfbalpkjcfdakaaDoorQK
namespace Go.Proofs.YtfbalpkjcfdakaaDoor
open Go.RowKit
set_option linter.unusedVariables false
set_option linter.unusedSimpArgs false

theorem RowsOK.congr {f g : Nat → Bool} {G : Nat → Nat} (h : RowsOK f G) (e : ∀ k, k < 6400 → f k = g k) : RowsOK g G := by
  refine ⟨h.word, h.high, fun i hi c hc => ?_⟩
  rw [h.bits i hi c hc]
  have hin : (-40 ≤ ((c : Int) - 40) ∧ ((c : Int) - 40) ≤ 39) ∧ (-40 ≤ ((i : Int) - 40) ∧ ((i : Int) - 40) ≤ 39) := by omega
  rw [hasB_in hin, hasB_in hin]
  exact e _ (cIx_lt hin.1.1 hin.1.2 hin.2.1 hin.2.2)
theorem mk16 {n : Nat} (h : n ≤ 16) : mk n < 65536 := by
  unfold mk
  have : 2 ^ n ≤ 2 ^ 16 := Nat.pow_le_pow_right (by decide) h
  have : 0 < 2 ^ n := Nat.two_pow_pos n
  omega
theorem mk_col {c j : Nat} (hc : c ≤ 80) (hj : j < 80) : colB (mk (min c 64)) (mk (c - 64)) j = decide (j < c) := by
  unfold colB
  by_cases h : j < 64
  · rw [if_pos h, mk_bit]
    exact decide_eq_decide.2 (by omega)
  · rw [if_neg h, mk_bit]
    exact decide_eq_decide.2 (by omega)
theorem xor_col (A B C D j : Nat) : colB (A ^^^ C) (B ^^^ D) j = (colB A B j != colB C D j) := by
  unfold colB
  by_cases h : j < 64
  · rw [if_pos h, if_pos h, if_pos h, Nat.testBit_xor]
  · rw [if_neg h, if_neg h, if_neg h, Nat.testBit_xor]
/-- Row i with its first c columns turned over. -/
def xorR (G : Nat → Nat) (i c : Nat) : Nat → Nat := setR G i (G (i * 2) ^^^ mk (min c 64)) (G (i * 2 + 1) ^^^ mk (c - 64))
theorem xorR_ok {f : Nat → Bool} {G : Nat → Nat} (h : RowsOK f G) {i c : Nat} (hi : i < 80) (hc : c ≤ 80) : RowsOK (fun k => f k != (decide (k / 80 = i) && decide (k % 80 < c))) (xorR G i c) := by
  unfold xorR
  refine ⟨setR_word h.word (Nat.xor_lt_two_pow (n := 64) (h.word _) (mk_lt (by omega))) (Nat.xor_lt_two_pow (n := 64) (h.word _) (mk_lt (by omega))), fun j hj => ?_, fun j hj d hd => ?_⟩
  · rw [setR_odd]
    split
    · exact Nat.xor_lt_two_pow (n := 16) (h.high i hi) (mk16 (by omega))
    · exact h.high j hj
  · have hin : (-40 ≤ ((d : Int) - 40) ∧ ((d : Int) - 40) ≤ 39) ∧ (-40 ≤ ((j : Int) - 40) ∧ ((j : Int) - 40) ≤ 39) := by omega
    have hb := h.bits j hj d hd
    rw [hasB_in hin] at hb ⊢
    have q1 : cIx ((d : Int) - 40) ((j : Int) - 40) / 80 = j := by unfold cIx; omega
    have q2 : cIx ((d : Int) - 40) ((j : Int) - 40) % 80 = d := by unfold cIx; omega
    rw [setR_even, setR_odd]
    show _ = (f _ != (decide (_ / 80 = i) && decide (_ % 80 < c)))
    rw [q1, q2]
    by_cases e : j = i
    · subst e
      rw [if_pos rfl, if_pos rfl, xor_col, mk_col hc hd, hb]
      simp
    · rw [if_neg e, if_neg e, hb]
      simp [e]
theorem tg_row {f : Nat → Bool} {G : Nat → Nat} {a lo y : Int} (h : RowsOK (tgF f fun u v => (decide (lo ≤ v) && decide (v < y)) && decide (u < a)) G) (h1 : -40 ≤ a) (h2 : a ≤ 40) (h3 : -40 ≤ y) (h4 : y ≤ 39) (h5 : lo ≤ y) :
    RowsOK (tgF f fun u v => (decide (lo ≤ v) && decide (v < y + 1)) && decide (u < a)) (xorR G (y + 40).toNat (a + 40).toNat) := by
  refine (xorR_ok h (i := (y + 40).toNat) (c := (a + 40).toNat) (by omega) (by omega)).congr fun k hk => ?_
  unfold tgF
  have e1 : decide (k / 80 = (y + 40).toNat) = decide ((((k / 80 : Nat) : Int) - 40) = y) := decide_eq_decide.2 (by omega)
  have e2 : decide (k % 80 < (a + 40).toNat) = decide ((((k % 80 : Nat) : Int) - 40) < a) := decide_eq_decide.2 (by omega)
  rw [e1, e2]
  generalize (((k / 80 : Nat) : Int) - 40) = v
  generalize (((k % 80 : Nat) : Int) - 40) = u
  have e3 : (decide (lo ≤ v) && decide (v < y + 1)) = ((decide (lo ≤ v) && decide (v < y)) != decide (v = y)) := by
    by_cases p : v = y
    · subst p; simp [h5]; omega
    · have : decide (v < y + 1) = decide (v < y) := decide_eq_decide.2 (by omega)
      rw [this]; simp [p]
  dsimp only
  rw [e3]
  cases f k <;> cases (decide (lo ≤ v) && decide (v < y)) <;> cases decide (v = y) <;> cases decide (u < a) <;> rfl
/-- The next edge done: the set filled from the right. -/
theorem tg_next {P Q R S : Nat → Int} {i : Nat} {G : Nat → Nat} (hp : P i = R i ∨ Q i = S i) (h : RowsOK (tgF (fillR (listR P Q R S i)) fun u v => (decide (min (Q i) (S i) ≤ v) && decide (v < max (Q i) (S i))) && decide (u < P i)) G) : RowsOK (fillR (listR P Q R S (i + 1))) G := by
  refine h.congr fun k hk => ?_
  unfold tgF
  rw [listR_succ]
  unfold fillR
  rw [rgt_snoc]
  dsimp only
  congr 1
  by_cases q : Q i = S i
  · rw [crs_flat (by exact q), q]
    have : (decide (min (S i) (S i) ≤ (((k / 80 : Nat) : Int) - 40)) && decide ((((k / 80 : Nat) : Int) - 40) < max (S i) (S i))) = false := by rw [Bool.and_eq_false_iff, decide_eq_false_iff_not, decide_eq_false_iff_not]; omega
    rw [this]
  · have ha : P i = R i := by omega
    congr 1
    unfold crs
    simp [ha]
theorem tg_none (f : Nat → Bool) (a lo : Int) {G : Nat → Nat} (h : RowsOK f G) : RowsOK (tgF f fun u v => (decide (lo ≤ v) && decide (v < lo)) && decide (u < a)) G := by
  refine h.congr fun k hk => ?_
  unfold tgF
  have : ∀ v : Int, (decide (lo ≤ v) && decide (v < lo)) = false := fun v => by rw [Bool.and_eq_false_iff, decide_eq_false_iff_not, decide_eq_false_iff_not]; omega
  dsimp only
  rw [this]; simp
theorem tg_flat (f : Nat → Bool) (a lo hi : Int) (hle : hi ≤ lo) {G : Nat → Nat} (h : RowsOK f G) : RowsOK (tgF f fun u v => (decide (lo ≤ v) && decide (v < hi)) && decide (u < a)) G := by
  refine h.congr fun k hk => ?_
  unfold tgF
  have : ∀ v : Int, (decide (lo ≤ v) && decide (v < hi)) = false := fun v => by rw [Bool.and_eq_false_iff, decide_eq_false_iff_not, decide_eq_false_iff_not]; omega
  dsimp only
  rw [this]; simp
theorem fillR_nil : fillR [] = fun _ => false := by funext k; unfold fillR rgt; simp
theorem fillF_nil : fillF [] = fun _ => false := by funext k; unfold fillF lft; simp
end Go.Proofs.YtfbalpkjcfdakaaDoor
