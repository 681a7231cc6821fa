/- Sets of unit cells as flags, their runs, bands and canonical lists. No program's run in it. -/
import Derived.Test.YtciodcknobccdaaDoorReI
namespace Go.Proofs.YtciodcknobccdaaDoor
open Go.RowKit
set_option linter.unusedVariables false
set_option linter.unusedSimpArgs false

/-- The place of a unit cell's flag. -/
def cIx (x y : Int) : Nat := ((y + 40) * 80 + x + 40).toNat
def inC (x y : Int) : Bool := inB x (-40) 39 && inB y (-40) 39
theorem inC_t {x y : Int} (h : inC x y = true) : (-40 ≤ x ∧ x ≤ 39) ∧ (-40 ≤ y ∧ y ≤ 39) := by
  unfold inC at h; simp only [Bool.and_eq_true] at h; exact ⟨inB_t h.1, inB_t h.2⟩
theorem inC_mk {x y : Int} (h : (-40 ≤ x ∧ x ≤ 39) ∧ (-40 ≤ y ∧ y ≤ 39)) : inC x y = true := by
  unfold inC; rw [inB_mk h.1.1 h.1.2, inB_mk h.2.1 h.2.2]; rfl
theorem cIx_lt {x y : Int} (h1 : -40 ≤ x) (h2 : x ≤ 39) (h3 : -40 ≤ y) (h4 : y ≤ 39) : cIx x y < 6400 := by unfold cIx; omega
theorem cIx_int {x y : Int} (h1 : -40 ≤ x) (h2 : x ≤ 39) (h3 : -40 ≤ y) (h4 : y ≤ 39) : ((cIx x y : Nat) : Int) = (y + 40) * 80 + x + 40 := by unfold cIx; omega
theorem cIx_inj {x y u v : Int} (h1 : -40 ≤ x) (h2 : x ≤ 39) (h3 : -40 ≤ y) (h4 : y ≤ 39) (k1 : -40 ≤ u) (k2 : u ≤ 39) (k3 : -40 ≤ v) (k4 : v ≤ 39) (h : cIx x y = cIx u v) : x = u ∧ y = v := by unfold cIx at h; omega
/-- Is the unit cell on the chip and set? -/
def hasB (f : Nat → Bool) (x y : Int) : Bool := inC x y && f (cIx x y)
theorem hasB_out {f : Nat → Bool} {x y : Int} (h : ¬ ((-40 ≤ x ∧ x ≤ 39) ∧ (-40 ≤ y ∧ y ≤ 39))) : hasB f x y = false := by
  unfold hasB
  cases hc : inC x y with
  | false => rfl
  | true => exact absurd (inC_t hc) h
theorem hasB_in {f : Nat → Bool} {x y : Int} (h : (-40 ≤ x ∧ x ≤ 39) ∧ (-40 ≤ y ∧ y ≤ 39)) : hasB f x y = f (cIx x y) := by
  unfold hasB; rw [inC_mk h]; rfl
/-- Does a run begin or end before column x of row y? -/
def chg (f : Nat → Bool) (x y : Int) : Bool := hasB f x y != hasB f (x - 1) y
def runsTo (f : Nat → Bool) (y : Int) : Nat → List Int
  | 0 => []
  | k + 1 => if chg f (-40 + k) y = true then runsTo f y k ++ [-40 + (k : Int)] else runsTo f y k
/-- The starts and ends of the runs of row y. -/
def runsL (f : Nat → Bool) (y : Int) : List Int := runsTo f y 81
theorem runsTo_yes {f : Nat → Bool} {y : Int} {k : Nat} (h : chg f (-40 + k) y = true) : runsTo f y (k + 1) = runsTo f y k ++ [-40 + (k : Int)] := by rw [runsTo, if_pos h]
theorem runsTo_no {f : Nat → Bool} {y : Int} {k : Nat} (h : chg f (-40 + k) y = false) : runsTo f y (k + 1) = runsTo f y k := by rw [runsTo, if_neg (by simp [h])]
theorem runsTo_len (f : Nat → Bool) (y : Int) : ∀ k, (runsTo f y k).length ≤ k
  | 0 => Nat.le_refl _
  | k + 1 => by
    have := runsTo_len f y k
    rw [runsTo]; split
    · rw [List.length_append]; simp; omega
    · omega
theorem runsTo_mem (f : Nat → Bool) (y : Int) : ∀ (k : Nat) (x : Int), x ∈ runsTo f y k → -40 ≤ x ∧ x < -40 + k
  | 0, x, h => by simp [runsTo] at h
  | k + 1, x, h => by
    rw [runsTo] at h
    split at h
    · rcases List.mem_append.1 h with h | h
      · have := runsTo_mem f y k x h; omega
      · have := List.mem_singleton.1 h; omega
    · have := runsTo_mem f y k x h; omega

/-- The end of the band that begins with row y: from row e on, with fuel n. -/
def bandE (f : Nat → Bool) (y : Int) : Nat → Int → Int
  | 0, e => e
  | n + 1, e => if e < 40 ∧ runsL f e = runsL f y then bandE f y n (e + 1) else e
theorem bandE_ge (f : Nat → Bool) (y : Int) : ∀ (n : Nat) (e : Int), e ≤ bandE f y n e
  | 0, e => Int.le_refl _
  | n + 1, e => by
    rw [bandE]; split
    · have := bandE_ge f y n (e + 1); omega
    · omega
theorem bandE_le (f : Nat → Bool) (y : Int) : ∀ (n : Nat) (e : Int), e ≤ 40 → bandE f y n e ≤ 40
  | 0, e, h => h
  | n + 1, e, h => by
    rw [bandE]; split
    · rename_i h'; exact bandE_le f y n (e + 1) (by omega)
    · exact h
/-- A rectangle. -/
structure R4 where
  a : Int
  b : Int
  c : Int
  d : Int
deriving DecidableEq
instance : Inhabited R4 := ⟨⟨0, 0, 0, 0⟩⟩
/-- The rectangles of a band from its runs. -/
def pairsR (y e : Int) : List Int → List R4
  | a :: b :: l => ⟨a, y, b, e⟩ :: pairsR y e l
  | _ => []
theorem pairsR_len (y e : Int) : ∀ l : List Int, (pairsR y e l).length = l.length / 2
  | [] => rfl
  | [a] => by simp [pairsR]
  | a :: b :: l => by rw [pairsR, List.length_cons, pairsR_len y e l, List.length_cons, List.length_cons]; omega
theorem pairsR_get (y e : Int) : ∀ (l : List Int) (j : Nat), 2 * j + 1 < l.length → (pairsR y e l)[j]? = some ⟨l.getD (2 * j) 0, y, l.getD (2 * j + 1) 0, e⟩
  | [], j, h => absurd h (by simp)
  | [a], j, h => absurd h (by simp)
  | a :: b :: l, 0, h => by simp [pairsR]
  | a :: b :: l, j + 1, h => by
    rw [pairsR, List.getElem?_cons_succ, pairsR_get y e l j (by simp at h; omega)]
    congr 1
/-- The canonical list from row y on, with fuel n. -/
def canonF (f : Nat → Bool) : Nat → Int → List R4
  | 0, _ => []
  | n + 1, y => if y < 40 then pairsR y (bandE f y 80 (y + 1)) (runsL f y) ++ canonF f n (bandE f y 80 (y + 1)) else []
/-- The region of the cells that are set. -/
def canonL (f : Nat → Bool) : List R4 := canonF f 80 (-40)
theorem canonF_end (f : Nat → Bool) (n : Nat) (y : Int) (h : ¬ y < 40) : canonF f n y = [] := by
  cases n with
  | zero => rfl
  | succ n => rw [canonF, if_neg h]
theorem canonF_step (f : Nat → Bool) (n : Nat) (y : Int) (h : y < 40) (hn : 40 - y ≤ n) : ∃ m : Nat, 40 - bandE f y 80 (y + 1) ≤ m ∧ canonF f n y = pairsR y (bandE f y 80 (y + 1)) (runsL f y) ++ canonF f m (bandE f y 80 (y + 1)) := by
  obtain ⟨m, rfl⟩ : ∃ m, n = m + 1 := ⟨n - 1, by omega⟩
  have := bandE_ge f y 80 (y + 1)
  exact ⟨m, by omega, by rw [canonF, if_pos h]⟩
theorem bandE_step (f : Nat → Bool) (y : Int) (n : Nat) (e : Int) (h : e < 40) (hr : runsL f e = runsL f y) (hn : 40 - e ≤ n) : ∃ m : Nat, 40 - (e + 1) ≤ m ∧ bandE f y n e = bandE f y m (e + 1) := by
  obtain ⟨m, rfl⟩ : ∃ m, n = m + 1 := ⟨n - 1, by omega⟩
  exact ⟨m, by omega, by rw [bandE, if_pos ⟨h, hr⟩]⟩
theorem bandE_stop (f : Nat → Bool) (y : Int) (n : Nat) (e : Int) (h : ¬ (e < 40 ∧ runsL f e = runsL f y)) : bandE f y n e = e := by
  cases n with
  | zero => rfl
  | succ n => rw [bandE, if_neg h]

/-- The cells of a list of rectangles as they lie in memory. -/
def r4cells (r : R4) : List Value := [.int .i64 r.a, .int .i64 r.b, .int .i64 r.c, .int .i64 r.d]
def recCells (l : List R4) : List Value := l.flatMap r4cells
theorem recCells_snoc (l : List R4) (r : R4) : recCells (l ++ [r]) = recCells l ++ r4cells r := by unfold recCells; rw [List.flatMap_append]; simp
theorem recCells_len (l : List R4) : (recCells l).length = l.length * 4 := by
  induction l with
  | nil => rfl
  | cons r l ih => unfold recCells at ih ⊢; rw [List.flatMap_cons, List.length_append, ih, List.length_cons]; simp [r4cells]; omega
theorem recCells_at : ∀ (l : List R4) (i : Nat) (r : R4), l[i]? = some r → (recCells l)[i * 4]? = some (.int .i64 r.a) ∧ (recCells l)[i * 4 + 1]? = some (.int .i64 r.b) ∧ (recCells l)[i * 4 + 2]? = some (.int .i64 r.c) ∧ (recCells l)[i * 4 + 3]? = some (.int .i64 r.d)
  | [], i, r, h => by simp at h
  | x :: l, 0, r, h => by
    obtain rfl : x = r := by simpa using h
    simp [recCells, r4cells]
  | x :: l, i + 1, r, h => by
    have h' : l[i]? = some r := by simpa using h
    have ih := recCells_at l i r h'
    have e : recCells (x :: l) = r4cells x ++ recCells l := by simp [recCells]
    have l4 : (r4cells x).length = 4 := rfl
    rw [e]
    refine ⟨?_, ?_, ?_, ?_⟩ <;> rw [List.getElem?_append_right (by omega), l4]
    · rw [show (i + 1) * 4 - 4 = i * 4 by omega]; exact ih.1
    · rw [show (i + 1) * 4 + 1 - 4 = i * 4 + 1 by omega]; exact ih.2.1
    · rw [show (i + 1) * 4 + 2 - 4 = i * 4 + 2 by omega]; exact ih.2.2.1
    · rw [show (i + 1) * 4 + 3 - 4 = i * 4 + 3 by omega]; exact ih.2.2.2
def pA (l : List R4) (i : Nat) : Int := (l.getD i default).a
def pB (l : List R4) (i : Nat) : Int := (l.getD i default).b
def pC (l : List R4) (i : Nat) : Int := (l.getD i default).c
def pD (l : List R4) (i : Nat) : Int := (l.getD i default).d
/-- The list that the functions P, Q, R, S spell. -/
def listR (P Q R S : Nat → Int) (n : Nat) : List R4 := (List.range n).map fun i => ⟨P i, Q i, R i, S i⟩
theorem listR_len (P Q R S : Nat → Int) (n : Nat) : (listR P Q R S n).length = n := by simp [listR]
theorem listR_get (P Q R S : Nat → Int) (n i : Nat) (h : i < n) : (listR P Q R S n)[i]? = some ⟨P i, Q i, R i, S i⟩ := by
  simp [listR, List.getElem?_range h]

/-- Is the unit cell covered by one of the first n rectangles? -/
def covB (P Q R S : Nat → Int) (x y : Int) : Nat → Bool
  | 0 => false
  | n + 1 => covB P Q R S x y n || (decide (P n ≤ x) && decide (x < R n) && decide (Q n ≤ y) && decide (y < S n))
/-- The flags of the first n rectangles' cells. -/
def covF (P Q R S : Nat → Int) (n : Nat) (i : Nat) : Bool := covB P Q R S ((i % 80 : Nat) - 40) ((i / 80 : Nat) - 40) n
theorem cIx_back {x y : Int} (h1 : -40 ≤ x) (h2 : x ≤ 39) (h3 : -40 ≤ y) (h4 : y ≤ 39) : ((cIx x y % 80 : Nat) : Int) - 40 = x ∧ ((cIx x y / 80 : Nat) : Int) - 40 = y := by unfold cIx; omega
theorem covF_at (P Q R S : Nat → Int) (n : Nat) {x y : Int} (h1 : -40 ≤ x) (h2 : x ≤ 39) (h3 : -40 ≤ y) (h4 : y ≤ 39) : covF P Q R S n (cIx x y) = covB P Q R S x y n := by
  unfold covF; rw [(cIx_back h1 h2 h3 h4).1, (cIx_back h1 h2 h3 h4).2]
theorem covF_zero (P Q R S : Nat → Int) (i : Nat) : covF P Q R S 0 i = false := rfl
end Go.Proofs.YtciodcknobccdaaDoor
