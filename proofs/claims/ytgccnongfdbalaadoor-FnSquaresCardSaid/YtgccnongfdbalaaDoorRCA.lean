/- The walk of FnExactRegionBox over a contract of the program's function. Condition: the rectangles' cells are in memory. -/
import Derived.Test.YtgccnongfdbalaaDoorQD
import Derived.Test.YtgccnongfdbalaaDoorQA
import Derived.Test.YtgccnongfdbalaaDoorRBA
import Derived.Test.YtgccnongfdbalaaDoorRAA
namespace Go.Proofs.YtgccnongfdbalaaDoor
open Go.RowKit
set_option linter.unusedVariables false
set_option linter.unusedSimpArgs false

/-- What RegionBox answers. -/
def rbB (P Q R S : Nat → Int) (n : Nat) : Bool := okR P Q R S n && decide (0 < n)
def rb0 (P Q R S : Nat → Int) (n : Nat) : Int := if rbB P Q R S n = true then mn (sh P) (P 0) (n - 1) else 0
def rb1 (P Q R S : Nat → Int) (n : Nat) : Int := if rbB P Q R S n = true then mn (sh Q) (Q 0) (n - 1) else 0
def rb2 (P Q R S : Nat → Int) (n : Nat) : Int := if rbB P Q R S n = true then mx (sh R) (R 0) (n - 1) else 0
def rb3 (P Q R S : Nat → Int) (n : Nat) : Int := if rbB P Q R S n = true then mx (sh S) (S 0) (n - 1) else 0
theorem specRegionBox_all (m : Option Addr) (len cap : Nat) (P Q R S : Nat → Int) (w : World) (hlen : len ≤ 1048576) (hR : RectsIs w.heap.size w m len P Q R S) :
    Calls Tryd.prog 44 #[.slice m len cap] w fun e w' => e = .returned (.tuple #[.agg #[.int .i64 (rb0 P Q R S len), .int .i64 (rb1 P Q R S len), .int .i64 (rb2 P Q R S len), .int .i64 (rb3 P Q R S len)], .bool (rbB P Q R S len)]) ∧ Below w.heap.size w w' := by
  cases h : rbB P Q R S len with
  | true =>
    have h' := h
    unfold rbB at h'
    rw [Bool.and_eq_true, decide_eq_true_eq] at h'
    rw [rb0, if_pos h, rb1, if_pos h, rb2, if_pos h, rb3, if_pos h]
    exact specRegionBox_yes m len cap P Q R S w hlen hR h'.1 h'.2
  | false =>
    have h' := h
    unfold rbB at h'
    rw [Bool.and_eq_false_iff, decide_eq_false_iff_not] at h'
    have hf : ¬ rbB P Q R S len = true := by simp [h]
    rw [rb0, if_neg hf, rb1, if_neg hf, rb2, if_neg hf, rb3, if_neg hf]
    exact specRegionBox_no m len cap P Q R S w hlen hR (h'.imp id (by omega))
end Go.Proofs.YtgccnongfdbalaaDoor

namespace Go.Proofs.YtgccnongfdbalaaDoor
open Go.RowKit
set_option linter.unusedVariables false
set_option linter.unusedSimpArgs false

theorem sq_opn {f : Nat → Bool} {k : Nat} (hb : ∀ j, j < 6400 → f j = true → k ≤ j % 80 ∧ j % 80 + k < 80 ∧ k ≤ j / 80 ∧ j / 80 + k < 80) {j : Nat} (hj : j < 6400) : sqF f (2 * k + 1) 6400 j = opnF f k j := by
  unfold opnF
  rw [Bool.eq_iff_iff, sqF_t, seeF_t]
  unfold inSq
  simp only [Bool.and_eq_true, decide_eq_true_eq]
  constructor
  · rintro ⟨c, hc, hcb, h1, h2⟩
    obtain ⟨hs, h3, h4⟩ := (corn_t (by omega) hc).1 hcb
    rw [show 2 * k + 1 - 1 = 2 * k by omega] at hs
    refine ⟨c % 80 + k, c / 80 + k, by omega, by omega, by omega, by omega, by omega, by omega, (shF_t _ _ _ _).2 fun u v a1 a2 a3 a4 a5 a6 => ?_⟩
    rw [show ((c / 80 + k) * 80 + (c % 80 + k)) % 80 = c % 80 + k by omega] at a1 a2
    rw [show ((c / 80 + k) * 80 + (c % 80 + k)) / 80 = c / 80 + k by omega] at a4 a5
    exact (shF_t _ _ _ _).1 hs u v (by omega) (by omega) a3 (by omega) (by omega) a6
  · rintro ⟨u, v, a1, a2, a3, a4, a5, a6, a7⟩
    have hs := (shF_t _ _ _ _).1 a7
    rw [show (v * 80 + u) % 80 = u by omega, show (v * 80 + u) / 80 = v by omega] at hs
    have hself := hs u v (by omega) (by omega) a3 (by omega) (by omega) a6
    obtain ⟨b1, b2, b3, b4⟩ := hb _ (by omega) hself
    rw [show (v * 80 + u) % 80 = u by omega] at b1 b2
    rw [show (v * 80 + u) / 80 = v by omega] at b3 b4
    refine ⟨(v - k) * 80 + (u - k), by omega, (corn_t (by omega) (by omega)).2 ⟨(shF_t _ _ _ _).2 fun u' v' c1 c2 c3 c4 c5 c6 => ?_, by omega, by omega⟩, by omega, by omega⟩
    rw [show ((v - k) * 80 + (u - k)) % 80 = u - k by omega] at c1 c2
    rw [show ((v - k) * 80 + (u - k)) / 80 = v - k by omega] at c4 c5
    exact hs u' v' (by omega) (by omega) c3 (by omega) (by omega) c6
theorem mn_bd (f : Nat → Int) (s : Int) : ∀ n, mn f s n ≤ s ∧ ∀ i, i < n → mn f s n ≤ f i
  | 0 => ⟨by simp [mn], fun i hi => by omega⟩
  | n + 1 => by
    obtain ⟨h1, h2⟩ := mn_bd f s n
    have h3 : mn f s (n + 1) ≤ mn f s n ∧ mn f s (n + 1) ≤ f n := by simp only [mn]; omega
    exact ⟨by omega, fun i hi => by
      by_cases e : i = n
      · subst e; exact h3.2
      · exact Int.le_trans h3.1 (h2 i (by omega))⟩
theorem mx_bd (f : Nat → Int) (s : Int) : ∀ n, s ≤ mx f s n ∧ ∀ i, i < n → f i ≤ mx f s n
  | 0 => ⟨by simp [mx], fun i hi => by omega⟩
  | n + 1 => by
    obtain ⟨h1, h2⟩ := mx_bd f s n
    have h3 : mx f s n ≤ mx f s (n + 1) ∧ f n ≤ mx f s (n + 1) := by simp only [mx]; omega
    exact ⟨by omega, fun i hi => by
      by_cases e : i = n
      · subst e; exact h3.2
      · exact Int.le_trans (h2 i (by omega)) h3.1⟩
theorem mn_all (f : Nat → Int) {n i : Nat} (hi : i < n) : mn (sh f) (f 0) (n - 1) ≤ f i := by
  obtain ⟨h1, h2⟩ := mn_bd (sh f) (f 0) (n - 1)
  cases i with
  | zero => exact h1
  | succ i => exact h2 i (by omega)
theorem mx_all (f : Nat → Int) {n i : Nat} (hi : i < n) : f i ≤ mx (sh f) (f 0) (n - 1) := by
  obtain ⟨h1, h2⟩ := mx_bd (sh f) (f 0) (n - 1)
  cases i with
  | zero => exact h1
  | succ i => exact h2 i (by omega)
theorem box_in {P Q R S : Nat → Int} {n k : Nat} (hb : rbB P Q R S n = true) (h0 : -40 + (k : Int) ≤ rb0 P Q R S n) (h1 : -40 + (k : Int) ≤ rb1 P Q R S n) (h2 : rb2 P Q R S n ≤ 40 - (k : Int)) (h3 : rb3 P Q R S n ≤ 40 - (k : Int)) :
    ∀ j, j < 6400 → covF P Q R S n j = true → k ≤ j % 80 ∧ j % 80 + k < 80 ∧ k ≤ j / 80 ∧ j / 80 + k < 80 := fun j hj h => by
  unfold rb0 at h0; unfold rb1 at h1; unfold rb2 at h2; unfold rb3 at h3
  rw [if_pos hb] at h0 h1 h2 h3
  unfold covF at h
  obtain ⟨i, hi, a1, a2, a3, a4⟩ := covB_t.1 h
  have e0 := mn_all P hi
  have e1 := mn_all Q hi
  have e2 := mx_all R hi
  have e3 := mx_all S hi
  omega
theorem sq_of_canon {l : List R4} {f : Nat → Bool} (h : l = canonL f) {k : Nat} (hk : 2 * k + 1 ≤ 10) (hb : ∀ j, j < 6400 → f j = true → k ≤ j % 80 ∧ j % 80 + k < 80 ∧ k ≤ j / 80 ∧ j / 80 + k < 80) :
    sqL (pA l) (pB l) (pC l) (pD l) l.length (2 * (k : Int) + 1) = canonL (opnF f k) := by
  have hf := cov_of_canon h
  have hi : inB (2 * (k : Int) + 1) 0 10 = true := inB_mk (by omega) (by omega)
  have hz : ((2 * (k : Int) + 1) == 0) = false := by simp; omega
  rw [sqV_yes (by rw [okR_of_canon h, hi, hz]; rfl), show (2 * (k : Int) + 1).toNat = 2 * k + 1 by omega]
  refine canonL_congr fun j hj => ?_
  rw [sq_opn (fun j hj e => hb j hj ((hf j hj).symm.trans e)) hj]
  exact opn_congr hf k j hj
end Go.Proofs.YtgccnongfdbalaaDoor
