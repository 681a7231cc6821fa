/- Words of 64 bits as numbers: what the program's masks, unions and changes are, bit by bit; the lowest set bit. No run, no condition. -/
import Derived.Test.YtciodcknobccdaaDoorBase
import Derived.Laws.Bits64b
import Derived.Lib.TrailingZeros
namespace Go.Proofs.YtciodcknobccdaaDoor
open Go.RowKit
set_option linter.unusedVariables false
set_option linter.unusedSimpArgs false

theorem bits_andNot_u64_nat (a b : Nat) (ha : a < 18446744073709551616) (hb : b < 18446744073709551616) :
    bits .andNot .u64 (a : Int) (b : Int) = ((a &&& (18446744073709551615 - b) : Nat) : Int) := by
  have h1 : (BitVec.ofInt 64 (a : Int)).toNat = a := by
    rw [BitVec.ofInt_natCast, BitVec.toNat_ofNat]; exact Nat.mod_eq_of_lt (by omega)
  have h2 : (~~~ BitVec.ofInt 64 (b : Int)).toNat = 18446744073709551615 - b := by
    rw [BitVec.toNat_not, BitVec.ofInt_natCast, BitVec.toNat_ofNat, Nat.mod_eq_of_lt (by omega)]
  have hx : a &&& (18446744073709551615 - b) < 2 ^ 64 := Nat.and_lt_two_pow _ (by omega)
  show IntKind.u64.wrap ((BitVec.ofInt 64 (a : Int) &&& ~~~ BitVec.ofInt 64 (b : Int)).toNat : Int) = _
  rw [BitVec.toNat_and, h1, h2, IntKind.wrap_u64]
  omega

theorem cellA {w1 : World} {b o : Nat} {v : Option Value} (h : w1.cell? ⟨b, o, none⟩ = v) (hb : b < w1.heap.size) (O : Obj) : (w1.alloc O).cell? ⟨b, o, none⟩ = v := by
  rw [World.cell?_alloc_lt _ _ _ hb]; exact h
/-- The bits below n. -/
def mk (n : Nat) : Nat := 2 ^ n - 1
theorem mk_bit (n i : Nat) : (mk n).testBit i = decide (i < n) := Nat.testBit_two_pow_sub_one n i
theorem mk_lt {n : Nat} (h : n ≤ 64) : mk n < 18446744073709551616 := by
  have : 2 ^ n ≤ 2 ^ 64 := Nat.pow_le_pow_right (by decide) h
  have : 0 < 2 ^ n := Nat.two_pow_pos n
  unfold mk
  omega
/-- The bits from m to n - 1. -/
def span (m n : Nat) : Nat := mk n &&& (18446744073709551615 - mk m)
theorem not_bit {a : Nat} (ha : a < 18446744073709551616) (i : Nat) : (18446744073709551615 - a).testBit i = (decide (i < 64) && !a.testBit i) := by
  have := Nat.testBit_two_pow_sub_succ (n := 64) (x := a) (by omega) i
  rw [show 2 ^ 64 - (a + 1) = 18446744073709551615 - a by omega] at this
  exact this
theorem span_bit {m n : Nat} (hm : m ≤ 64) (hn : n ≤ 64) (i : Nat) : (span m n).testBit i = (decide (m ≤ i) && decide (i < n)) := by
  unfold span
  rw [Nat.testBit_and, mk_bit, not_bit (mk_lt hm), mk_bit]
  by_cases h : i < n
  · have : i < 64 := by omega
    by_cases h' : i < m <;> simp [h, this, h'] <;> omega
  · simp [h]
theorem span_lt {m n : Nat} (hn : n ≤ 64) : span m n < 18446744073709551616 := by
  unfold span
  exact Nat.lt_of_le_of_lt Nat.and_le_left (mk_lt hn)

/-- Where a word differs from itself moved up by one, c coming in below. -/
theorem up_bit (a i : Nat) (ha : a < 18446744073709551616) (hi : i < 64) (c : Nat) (hc : c ≤ 1) : ((a * 2 % 18446744073709551616) ||| c).testBit i = if i = 0 then decide (c = 1) else a.testBit (i - 1) := by
  rw [Nat.testBit_or]
  have e : (a * 2 % 18446744073709551616).testBit i = (a * 2).testBit i := by
    rw [show (18446744073709551616 : Nat) = 2 ^ 64 by rfl, Nat.testBit_mod_two_pow]; simp [hi]
  rw [e]
  cases i with
  | zero => simp [Nat.testBit_zero]; omega
  | succ j =>
    rw [Nat.testBit_succ, Nat.testBit_succ]
    have h1 : a * 2 / 2 = a := by omega
    have h2 : c / 2 = 0 := by omega
    rw [h1, h2]
    simp
theorem top_bit (a : Nat) (ha : a < 18446744073709551616) : a / 9223372036854775808 ≤ 1 ∧ (a / 9223372036854775808 = 1 ↔ a.testBit 63 = true) := by
  constructor
  · omega
  · rw [Nat.testBit_eq_decide_div_mod_eq]
    simp
    omega

/-- The lowest set bit taken off. -/
theorem drop_low (x : Nat) (h0 : x ≠ 0) (h : x < 18446744073709551616) :
    Go.Lib.ctz 64 x < 64 ∧ x.testBit (Go.Lib.ctz 64 x) = true ∧ (∀ i, i < Go.Lib.ctz 64 x → x.testBit i = false) ∧ (∀ i, (x &&& (x - 1)).testBit i = (x.testBit i && decide (i ≠ Go.Lib.ctz 64 x))) ∧ x &&& (x - 1) < x := by
  obtain ⟨m, hm, hk⟩ := Go.Lib.ctzFrom_spec 64 x (by omega) (by omega)
  have e : Go.Lib.ctz 64 x = Go.Lib.ctzFrom 64 x := by simp [Go.Lib.ctz, h0]
  rw [← e] at hm hk
  obtain ⟨k, hk'⟩ : ∃ k, k = Go.Lib.ctz 64 x := ⟨_, rfl⟩
  rw [← hk'] at hm hk ⊢
  have bx : ∀ i, x.testBit i = (decide (k ≤ i) && (2 * m + 1).testBit (i - k)) := fun i => by
    rw [hm, Nat.mul_comm, Nat.testBit_mul_two_pow]
  have low : ∀ i, i < k → x.testBit i = false := fun i hi => by rw [bx]; simp; omega
  have at_k : x.testBit k = true := by rw [bx]; simp [Nat.testBit_zero]
  have hp : 0 < 2 ^ k := Nat.two_pow_pos k
  have e1 : x - 1 = 2 ^ k * (2 * m) + (2 ^ k - 1) := by
    rw [hm, Nat.mul_add]
    omega
  have b1 : ∀ i, (x - 1).testBit i = if i < k then true else (2 * m).testBit (i - k) := fun i => by
    rw [e1, Nat.testBit_two_pow_mul_add _ (by omega), Nat.testBit_two_pow_sub_one]
    by_cases h : i < k <;> simp [h]
  have key : ∀ i, (x &&& (x - 1)).testBit i = (x.testBit i && decide (i ≠ k)) := fun i => by
    rw [Nat.testBit_and, b1]
    by_cases h : i < k
    · simp [low i h]
    · by_cases h2 : i = k
      · subst h2
        simp [Nat.testBit_zero]
      · rw [if_neg h, bx]
        obtain ⟨j, hj⟩ : ∃ j, i - k = j + 1 := ⟨i - k - 1, by omega⟩
        rw [hj, Nat.testBit_succ, Nat.testBit_succ, show (2 * m + 1) / 2 = m by omega, show 2 * m / 2 = m by omega]
        simp [h2]
  refine ⟨hk, at_k, low, key, ?_⟩
  have hle : x &&& (x - 1) ≤ x - 1 := Nat.and_le_right
  omega
end Go.Proofs.YtciodcknobccdaaDoor
