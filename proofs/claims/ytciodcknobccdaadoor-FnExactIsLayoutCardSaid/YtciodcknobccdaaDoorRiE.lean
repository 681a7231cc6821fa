/- The columns of a set in increasing order: the program's runs. Condition: the table of math/bits is in memory. -/
import Derived.Test.YtciodcknobccdaaDoorRiD
namespace Go.Proofs.YtciodcknobccdaaDoor
open Go.RowKit
set_option linter.unusedVariables false
set_option linter.unusedSimpArgs false
attribute [local go_sem ↓] Go.wp_at_zero Go.wp_at_succ

/-- Bit c of a pair of words. -/
def colB (A B : Nat) (c : Nat) : Bool := if c < 64 then A.testBit c else B.testBit (c - 64)
/-- Where a set of columns changes. -/
def chA (A : Nat) : Nat := A ^^^ (A * 2 % 18446744073709551616)
def chB (A B : Nat) : Nat := B ^^^ ((B * 2 % 18446744073709551616) ||| (A / 9223372036854775808))
theorem chA_lt {A : Nat} (h : W64 A) : W64 (chA A) := Nat.xor_lt_two_pow (n := 64) h (by omega)
theorem chB_lt {A B : Nat} (hA : W64 A) (h : W64 B) : W64 (chB A B) := by
  unfold W64 at *
  exact Nat.xor_lt_two_pow (n := 64) h (Nat.or_lt_two_pow (by omega) (by omega))
theorem ch_bit {A B : Nat} (hA : W64 A) (hB : B < 65536) (c : Nat) (hc : c ≤ 80) : colB (chA A) (chB A B) c = (colB A B c != (decide (0 < c) && colB A B (c - 1))) := by
  have h64 : B < 18446744073709551616 := by omega
  unfold colB chA chB
  by_cases h : c < 64
  · rw [if_pos h, if_pos h, Nat.testBit_xor]
    have := up_bit A c hA h 0 (by omega)
    rw [Nat.or_zero] at this
    rw [this]
    by_cases h0 : c = 0
    · subst h0; simp
    · rw [if_neg h0, if_pos (by omega)]
      simp [show 0 < c by omega]
  · rw [if_neg h, if_neg h, Nat.testBit_xor]
    obtain ⟨t1, t2⟩ := top_bit A hA
    rw [up_bit B (c - 64) h64 (by omega) _ t1]
    by_cases h0 : c = 64
    · subst h0
      simp only [Nat.sub_self, if_true, Nat.reduceLT, decide_true, Bool.true_and, Nat.reduceSub]
      rw [Bool.eq_iff_iff]
      simp [t2]
    · rw [if_neg (by omega), if_neg (by omega)]
      simp [show 0 < c by omega, show c - 64 - 1 = c - 1 - 64 by omega]

/-- The set bits of a word from below, as far as they have come: l, then the word that is left. -/
def LowOf (X : Nat) (l : List Nat) (x : Nat) : Prop := (∀ c, X.testBit c = true ↔ c ∈ l ∨ x.testBit c = true) ∧ (∀ c d, c ∈ l → x.testBit d = true → c < d) ∧ l.Pairwise (· < ·) ∧ ∀ c, c ∈ l → c < 64
theorem LowOf.start (X : Nat) : LowOf X [] X := ⟨fun c => by simp, fun c d h => by simp at h, .nil, fun c h => by simp at h⟩
theorem LowOf.next {X x : Nat} {l : List Nat} (h : LowOf X l x) (h0 : x ≠ 0) (hx : W64 x) : LowOf X (l ++ [Go.Lib.ctz 64 x]) (x &&& (x - 1)) := by
  obtain ⟨h1, h2, h3, h4⟩ := h
  obtain ⟨k1, k2, k3, k4, k5⟩ := drop_low x h0 hx
  refine ⟨fun c => ?_, fun c d hc hd => ?_, ?_, fun c hc => ?_⟩
  · rw [h1, k4]
    simp only [List.mem_append, List.mem_singleton, Bool.and_eq_true, decide_eq_true_eq]
    constructor
    · rintro (h | h)
      · exact .inl (.inl h)
      · by_cases hk : c = Go.Lib.ctz 64 x
        · exact .inl (.inr hk)
        · exact .inr ⟨h, hk⟩
    · rintro ((h | h) | h)
      · exact .inl h
      · exact .inr (h ▸ k2)
      · exact .inr h.1
  · rw [k4] at hd
    simp only [Bool.and_eq_true, decide_eq_true_eq] at hd
    simp only [List.mem_append, List.mem_singleton] at hc
    rcases hc with hc | hc
    · exact h2 c d hc hd.1
    · rw [hc]
      have : ¬ d < Go.Lib.ctz 64 x := fun hlt => by rw [k3 d hlt] at hd; simp at hd
      omega
  · rw [List.pairwise_append]
    refine ⟨h3, by simp, fun a ha b hb => ?_⟩
    simp only [List.mem_singleton] at hb
    rw [hb]
    exact h2 a _ ha k2
  · simp only [List.mem_append, List.mem_singleton] at hc
    rcases hc with hc | hc
    · exact h4 c hc
    · omega
theorem LowOf.len {X x : Nat} {l : List Nat} (h : LowOf X l x) : l.length ≤ 64 := by
  obtain ⟨h1, h2, h3, h4⟩ := h
  have key : ∀ (l : List Nat) (a n : Nat), l.Pairwise (· < ·) → (∀ c, c ∈ l → a ≤ c ∧ c < n) → a + l.length ≤ max n a := by
    intro l
    induction l with
    | nil => intro a n _ _; simp; omega
    | cons x t ih =>
      intro a n hp hb
      rw [List.pairwise_cons] at hp
      have := hb x (by simp)
      have := ih (x + 1) n hp.2 (fun c hc => ⟨hp.1 c hc, (hb c (by simp [hc])).2⟩)
      simp
      omega
  have := key l 0 64 h3 fun c hc => ⟨by omega, h4 c hc⟩
  omega
theorem LowOf.done {X : Nat} {l : List Nat} (h : LowOf X l 0) : (∀ c, X.testBit c = true ↔ c ∈ l) ∧ l.Pairwise (· < ·) ∧ ∀ c, c ∈ l → c < 64 :=
  ⟨fun c => by rw [h.1]; simp, h.2.2.1, h.2.2.2⟩
theorem incL_of_pairwise : ∀ l : List Int, l.Pairwise (· < ·) → incL l
  | [], _ => trivial
  | a :: l, h => by
    rw [List.pairwise_cons] at h
    exact ⟨h.1, incL_of_pairwise l h.2⟩

/-- The changes of a set of columns, word by word, are the runs of its row. -/
theorem runs_of_bits {A B : Nat} (hA : W64 A) (hB : B < 65536) {f : Nat → Bool} {y : Int} (hf : ∀ c : Nat, c < 80 → colB A B c = hasB f ((c : Int) - 40) y) {l0 l1 : List Nat}
    (h0 : LowOf (chA A) l0 0) (h1 : LowOf (chB A B) l1 0) : runsL f y = l0.map (fun c : Nat => (c : Int) - 40) ++ l1.map (fun c : Nat => (c : Int) + 24) := by
  obtain ⟨m0, p0, b0⟩ := h0.done
  obtain ⟨m1, p1, _⟩ := h1.done
  have b1 : ∀ c, c ∈ l1 → c < 17 := fun c hc => by
    have ht := (m1 c).2 hc
    have hlt : chB A B < 2 ^ 17 := by
      unfold chB
      have : W64 A := hA
      unfold W64 at this
      exact Nat.xor_lt_two_pow (n := 17) (by omega) (Nat.or_lt_two_pow (by omega) (by omega))
    refine Nat.lt_of_not_le fun hle => ?_
    rw [Nat.testBit_lt_two_pow (Nat.lt_of_lt_of_le hlt (Nat.pow_le_pow_right (by decide) hle))] at ht
    cases ht
  obtain ⟨L, hL⟩ : ∃ L, L = l0.map (fun c : Nat => (c : Int) - 40) ++ l1.map (fun c : Nat => (c : Int) + 24) := ⟨_, rfl⟩
  rw [← hL]
  have hmem : ∀ v, v ∈ L ↔ (∃ c, c ∈ l0 ∧ (c : Int) - 40 = v) ∨ ∃ c, c ∈ l1 ∧ (c : Int) + 24 = v := fun v => by rw [hL, List.mem_append, List.mem_map, List.mem_map]
  have hbd : ∀ u, u ∈ L → -40 ≤ u ∧ u ≤ 40 := fun u hu => by
    rcases (hmem u).1 hu with ⟨c, hc, rfl⟩ | ⟨c, hc, rfl⟩
    · have := b0 c hc; omega
    · have := b1 c hc; omega
  have hinc : incL L := incL_of_pairwise L (by
    rw [hL, List.pairwise_append, List.pairwise_map, List.pairwise_map]
    refine ⟨p0.imp fun h => by omega, p1.imp fun h => by omega, fun a ha b hb => ?_⟩
    obtain ⟨c, hc, rfl⟩ := List.mem_map.1 ha
    obtain ⟨d, hd, rfl⟩ := List.mem_map.1 hb
    have := b0 c hc
    omega)
  have hch : ∀ v, -40 ≤ v → v ≤ 40 → (chg f v y = true ↔ v ∈ L) := fun v v1 v2 => by
    obtain ⟨c, hc⟩ : ∃ c : Nat, c = (v + 40).toNat := ⟨_, rfl⟩
    have hv : v = (c : Int) - 40 := by omega
    have e1 : hasB f v y = colB A B c := by
      by_cases h : c < 80
      · rw [hf c h, hv]
      · obtain rfl : c = 80 := by omega
        rw [hasB_out (by omega)]
        unfold colB
        rw [if_neg (by omega), Nat.testBit_lt_two_pow (by omega)]
    have e2 : hasB f (v - 1) y = (decide (0 < c) && colB A B (c - 1)) := by
      by_cases h : 0 < c
      · rw [hf (c - 1) (by omega), show ((c - 1 : Nat) : Int) - 40 = v - 1 by omega]
        simp [h]
      · rw [hasB_out (by omega)]
        simp [h]
    unfold chg
    rw [e1, e2, ← ch_bit hA hB c (by omega), hmem]
    unfold colB
    by_cases h : c < 64
    · rw [if_pos h, m0]
      constructor
      · exact fun hc => .inl ⟨c, hc, hv.symm⟩
      · rintro (⟨d, hd, e⟩ | ⟨d, hd, e⟩)
        · obtain rfl : d = c := by omega
          exact hd
        · omega
    · rw [if_neg h, m1]
      constructor
      · exact fun hc => .inr ⟨c - 64, hc, by omega⟩
      · rintro (⟨d, hd, e⟩ | ⟨d, hd, e⟩)
        · have := b0 d hd; omega
        · obtain rfl : d = c - 64 := by omega
          exact hd
  have := runsTo_filt f y L hinc hbd hch 81 (by omega)
  rw [filt_all _ L fun u hu => by have := hbd u hu; omega] at this
  exact this
end Go.Proofs.YtciodcknobccdaaDoor
