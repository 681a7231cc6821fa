/- Sets of unit cells as flags, their runs, bands and canonical lists. No program's run in it. -/
import Derived.Test.YtfbalpkjcfdakaaGreatDoorQA
import Derived.OwnWalk
import Derived.Laws.AppendOwn
import Derived.LoopN
import Derived.Lib.Hide
namespace Go.Proofs.YtfbalpkjcfdakaaGreatDoor
open Go.RowKit
set_option linter.unusedVariables false
set_option linter.unusedSimpArgs false

/-- The place of a unit cell's flag. -/
def cIx (x y : Int) : Nat := ((y + 40) * 80 + x + 40).toNat
def inC (x y : Int) : Bool := inB x (-40) 39 && inB y (-40) 39
theorem inC_t {x y : Int} (h : inC x y = true) : (-40 ≤ x ∧ x ≤ 39) ∧ (-40 ≤ y ∧ y ≤ 39) := by
  unfold inC at h; simp only [Bool.and_eq_true] at h; exact ⟨inB_t h.1, inB_t h.2⟩
theorem inC_mk {x y : Int} (h : (-40 ≤ x ∧ x ≤ 39) ∧ (-40 ≤ y ∧ y ≤ 39)) : inC x y = true := by
  unfold inC; rw [inB_mk h.1.1 h.1.2, inB_mk h.2.1 h.2.2]; rfl
theorem cIx_lt {x y : Int} (h1 : -40 ≤ x) (h2 : x ≤ 39) (h3 : -40 ≤ y) (h4 : y ≤ 39) : cIx x y < 6400 := by unfold cIx; omega
theorem cIx_int {x y : Int} (h1 : -40 ≤ x) (h2 : x ≤ 39) (h3 : -40 ≤ y) (h4 : y ≤ 39) : ((cIx x y : Nat) : Int) = (y + 40) * 80 + x + 40 := by unfold cIx; omega
theorem cIx_inj {x y u v : Int} (h1 : -40 ≤ x) (h2 : x ≤ 39) (h3 : -40 ≤ y) (h4 : y ≤ 39) (k1 : -40 ≤ u) (k2 : u ≤ 39) (k3 : -40 ≤ v) (k4 : v ≤ 39) (h : cIx x y = cIx u v) : x = u ∧ y = v := by unfold cIx at h; omega
/-- Is the unit cell on the chip and set? -/
def hasB (f : Nat → Bool) (x y : Int) : Bool := inC x y && f (cIx x y)
theorem hasB_out {f : Nat → Bool} {x y : Int} (h : ¬ ((-40 ≤ x ∧ x ≤ 39) ∧ (-40 ≤ y ∧ y ≤ 39))) : hasB f x y = false := by
  unfold hasB
  cases hc : inC x y with
  | false => rfl
  | true => exact absurd (inC_t hc) h
theorem hasB_in {f : Nat → Bool} {x y : Int} (h : (-40 ≤ x ∧ x ≤ 39) ∧ (-40 ≤ y ∧ y ≤ 39)) : hasB f x y = f (cIx x y) := by
  unfold hasB; rw [inC_mk h]; rfl
/-- Does a run begin or end before column x of row y? -/
def chg (f : Nat → Bool) (x y : Int) : Bool := hasB f x y != hasB f (x - 1) y
def runsTo (f : Nat → Bool) (y : Int) : Nat → List Int
  | 0 => []
  | k + 1 => if chg f (-40 + k) y = true then runsTo f y k ++ [-40 + (k : Int)] else runsTo f y k
/-- The starts and ends of the runs of row y. -/
def runsL (f : Nat → Bool) (y : Int) : List Int := runsTo f y 81
theorem runsTo_yes {f : Nat → Bool} {y : Int} {k : Nat} (h : chg f (-40 + k) y = true) : runsTo f y (k + 1) = runsTo f y k ++ [-40 + (k : Int)] := by rw [runsTo, if_pos h]
theorem runsTo_no {f : Nat → Bool} {y : Int} {k : Nat} (h : chg f (-40 + k) y = false) : runsTo f y (k + 1) = runsTo f y k := by rw [runsTo, if_neg (by simp [h])]
theorem runsTo_len (f : Nat → Bool) (y : Int) : ∀ k, (runsTo f y k).length ≤ k
  | 0 => Nat.le_refl _
  | k + 1 => by
    have := runsTo_len f y k
    rw [runsTo]; split
    · rw [List.length_append]; simp; omega
    · omega
theorem runsTo_mem (f : Nat → Bool) (y : Int) : ∀ (k : Nat) (x : Int), x ∈ runsTo f y k → -40 ≤ x ∧ x < -40 + k
  | 0, x, h => by simp [runsTo] at h
  | k + 1, x, h => by
    rw [runsTo] at h
    split at h
    · rcases List.mem_append.1 h with h | h
      · have := runsTo_mem f y k x h; omega
      · have := List.mem_singleton.1 h; omega
    · have := runsTo_mem f y k x h; omega

/-- The end of the band that begins with row y: from row e on, with fuel n. -/
def bandE (f : Nat → Bool) (y : Int) : Nat → Int → Int
  | 0, e => e
  | n + 1, e => if e < 40 ∧ runsL f e = runsL f y then bandE f y n (e + 1) else e
theorem bandE_ge (f : Nat → Bool) (y : Int) : ∀ (n : Nat) (e : Int), e ≤ bandE f y n e
  | 0, e => Int.le_refl _
  | n + 1, e => by
    rw [bandE]; split
    · have := bandE_ge f y n (e + 1); omega
    · omega
theorem bandE_le (f : Nat → Bool) (y : Int) : ∀ (n : Nat) (e : Int), e ≤ 40 → bandE f y n e ≤ 40
  | 0, e, h => h
  | n + 1, e, h => by
    rw [bandE]; split
    · rename_i h'; exact bandE_le f y n (e + 1) (by omega)
    · exact h
/-- A rectangle. -/
structure R4 where
  a : Int
  b : Int
  c : Int
  d : Int
deriving DecidableEq
instance : Inhabited R4 := ⟨⟨0, 0, 0, 0⟩⟩
/-- The rectangles of a band from its runs. -/
def pairsR (y e : Int) : List Int → List R4
  | a :: b :: l => ⟨a, y, b, e⟩ :: pairsR y e l
  | _ => []
theorem pairsR_len (y e : Int) : ∀ l : List Int, (pairsR y e l).length = l.length / 2
  | [] => rfl
  | [a] => by simp [pairsR]
  | a :: b :: l => by rw [pairsR, List.length_cons, pairsR_len y e l, List.length_cons, List.length_cons]; omega
theorem pairsR_get (y e : Int) : ∀ (l : List Int) (j : Nat), 2 * j + 1 < l.length → (pairsR y e l)[j]? = some ⟨l.getD (2 * j) 0, y, l.getD (2 * j + 1) 0, e⟩
  | [], j, h => absurd h (by simp)
  | [a], j, h => absurd h (by simp)
  | a :: b :: l, 0, h => by simp [pairsR]
  | a :: b :: l, j + 1, h => by
    rw [pairsR, List.getElem?_cons_succ, pairsR_get y e l j (by simp at h; omega)]
    congr 1
/-- The canonical list from row y on, with fuel n. -/
def canonF (f : Nat → Bool) : Nat → Int → List R4
  | 0, _ => []
  | n + 1, y => if y < 40 then pairsR y (bandE f y 80 (y + 1)) (runsL f y) ++ canonF f n (bandE f y 80 (y + 1)) else []
/-- The region of the cells that are set. -/
def canonL (f : Nat → Bool) : List R4 := canonF f 80 (-40)
theorem canonF_end (f : Nat → Bool) (n : Nat) (y : Int) (h : ¬ y < 40) : canonF f n y = [] := by
  cases n with
  | zero => rfl
  | succ n => rw [canonF, if_neg h]
theorem canonF_step (f : Nat → Bool) (n : Nat) (y : Int) (h : y < 40) (hn : 40 - y ≤ n) : ∃ m : Nat, 40 - bandE f y 80 (y + 1) ≤ m ∧ canonF f n y = pairsR y (bandE f y 80 (y + 1)) (runsL f y) ++ canonF f m (bandE f y 80 (y + 1)) := by
  obtain ⟨m, rfl⟩ : ∃ m, n = m + 1 := ⟨n - 1, by omega⟩
  have := bandE_ge f y 80 (y + 1)
  exact ⟨m, by omega, by rw [canonF, if_pos h]⟩
theorem bandE_step (f : Nat → Bool) (y : Int) (n : Nat) (e : Int) (h : e < 40) (hr : runsL f e = runsL f y) (hn : 40 - e ≤ n) : ∃ m : Nat, 40 - (e + 1) ≤ m ∧ bandE f y n e = bandE f y m (e + 1) := by
  obtain ⟨m, rfl⟩ : ∃ m, n = m + 1 := ⟨n - 1, by omega⟩
  exact ⟨m, by omega, by rw [bandE, if_pos ⟨h, hr⟩]⟩
theorem bandE_stop (f : Nat → Bool) (y : Int) (n : Nat) (e : Int) (h : ¬ (e < 40 ∧ runsL f e = runsL f y)) : bandE f y n e = e := by
  cases n with
  | zero => rfl
  | succ n => rw [bandE, if_neg h]

/-- The cells of a list of rectangles as they lie in memory. -/
def r4cells (r : R4) : List Value := [.int .i64 r.a, .int .i64 r.b, .int .i64 r.c, .int .i64 r.d]
def recCells (l : List R4) : List Value := l.flatMap r4cells
theorem recCells_snoc (l : List R4) (r : R4) : recCells (l ++ [r]) = recCells l ++ r4cells r := by unfold recCells; rw [List.flatMap_append]; simp
theorem recCells_len (l : List R4) : (recCells l).length = l.length * 4 := by
  induction l with
  | nil => rfl
  | cons r l ih => unfold recCells at ih ⊢; rw [List.flatMap_cons, List.length_append, ih, List.length_cons]; simp [r4cells]; omega
theorem recCells_at : ∀ (l : List R4) (i : Nat) (r : R4), l[i]? = some r → (recCells l)[i * 4]? = some (.int .i64 r.a) ∧ (recCells l)[i * 4 + 1]? = some (.int .i64 r.b) ∧ (recCells l)[i * 4 + 2]? = some (.int .i64 r.c) ∧ (recCells l)[i * 4 + 3]? = some (.int .i64 r.d)
  | [], i, r, h => by simp at h
  | x :: l, 0, r, h => by
    obtain rfl : x = r := by simpa using h
    simp [recCells, r4cells]
  | x :: l, i + 1, r, h => by
    have h' : l[i]? = some r := by simpa using h
    have ih := recCells_at l i r h'
    have e : recCells (x :: l) = r4cells x ++ recCells l := by simp [recCells]
    have l4 : (r4cells x).length = 4 := rfl
    rw [e]
    refine ⟨?_, ?_, ?_, ?_⟩ <;> rw [List.getElem?_append_right (by omega), l4]
    · rw [show (i + 1) * 4 - 4 = i * 4 by omega]; exact ih.1
    · rw [show (i + 1) * 4 + 1 - 4 = i * 4 + 1 by omega]; exact ih.2.1
    · rw [show (i + 1) * 4 + 2 - 4 = i * 4 + 2 by omega]; exact ih.2.2.1
    · rw [show (i + 1) * 4 + 3 - 4 = i * 4 + 3 by omega]; exact ih.2.2.2
def pA (l : List R4) (i : Nat) : Int := (l.getD i default).a
def pB (l : List R4) (i : Nat) : Int := (l.getD i default).b
def pC (l : List R4) (i : Nat) : Int := (l.getD i default).c
def pD (l : List R4) (i : Nat) : Int := (l.getD i default).d
/-- The list that the functions P, Q, R, S spell. -/
def listR (P Q R S : Nat → Int) (n : Nat) : List R4 := (List.range n).map fun i => ⟨P i, Q i, R i, S i⟩
theorem listR_len (P Q R S : Nat → Int) (n : Nat) : (listR P Q R S n).length = n := by simp [listR]
theorem listR_get (P Q R S : Nat → Int) (n i : Nat) (h : i < n) : (listR P Q R S n)[i]? = some ⟨P i, Q i, R i, S i⟩ := by
  simp [listR, List.getElem?_range h]

/-- Is the unit cell covered by one of the first n rectangles? -/
def covB (P Q R S : Nat → Int) (x y : Int) : Nat → Bool
  | 0 => false
  | n + 1 => covB P Q R S x y n || (decide (P n ≤ x) && decide (x < R n) && decide (Q n ≤ y) && decide (y < S n))
/-- The flags of the first n rectangles' cells. -/
def covF (P Q R S : Nat → Int) (n : Nat) (i : Nat) : Bool := covB P Q R S ((i % 80 : Nat) - 40) ((i / 80 : Nat) - 40) n
theorem cIx_back {x y : Int} (h1 : -40 ≤ x) (h2 : x ≤ 39) (h3 : -40 ≤ y) (h4 : y ≤ 39) : ((cIx x y % 80 : Nat) : Int) - 40 = x ∧ ((cIx x y / 80 : Nat) : Int) - 40 = y := by unfold cIx; omega
theorem covF_at (P Q R S : Nat → Int) (n : Nat) {x y : Int} (h1 : -40 ≤ x) (h2 : x ≤ 39) (h3 : -40 ≤ y) (h4 : y ≤ 39) : covF P Q R S n (cIx x y) = covB P Q R S x y n := by
  unfold covF; rw [(cIx_back h1 h2 h3 h4).1, (cIx_back h1 h2 h3 h4).2]
theorem covF_zero (P Q R S : Nat → Int) (i : Nat) : covF P Q R S 0 i = false := rfl
end Go.Proofs.YtfbalpkjcfdakaaGreatDoor

namespace Go.Proofs.YtfbalpkjcfdakaaGreatDoor
open Go.RowKit
set_option linter.unusedVariables false
set_option linter.unusedSimpArgs false


def vldB (o x y : Int) : Bool := inB o 0 7 && inB x (-80) 80 && inB y (-80) 80

theorem vldB_t {o x y : Int} (h : vldB o x y = true) : (0 ≤ o ∧ o ≤ 7) ∧ (-80 ≤ x ∧ x ≤ 80) ∧ (-80 ≤ y ∧ y ≤ 80) := by
  unfold vldB at h
  simp only [Bool.and_eq_true] at h
  exact ⟨inB_t h.1.1, inB_t h.1.2, inB_t h.2⟩
theorem vldB_mk {o x y : Int} (h1 : 0 ≤ o) (h2 : o ≤ 7) (h3 : -80 ≤ x) (h4 : x ≤ 80) (h5 : -80 ≤ y) (h6 : y ≤ 80) : vldB o x y = true := by
  unfold vldB; rw [inB_mk h1 h2, inB_mk h3 h4, inB_mk h5 h6]; rfl


theorem l01In_any (n lo hi : Int) (w : World) : Calls Tryz.prog 82 #[.int .i64 n, .int .i64 lo, .int .i64 hi] w fun e w' => e = .returned (.bool (inB n lo hi)) ∧ w = w' := by
  by_cases h1 : lo ≤ n
  · by_cases h2 : n ≤ hi
    all_goals
      go_enter Tryz.func82, Tryz.ntmps82
      go_wp2
      go_ret
      exact ⟨ret_bool (by simp [inB, h1, h2]), rfl⟩
  · go_enter Tryz.func82, Tryz.ntmps82
    go_wp2
    go_ret
    exact ⟨ret_bool (inB_f (by omega)).symm, rfl⟩

theorem inRange_any (n lo hi : Int) (w : World) : Calls Tryz.prog 84 #[.int .i64 n, .int .i64 lo, .int .i64 hi] w fun e w' => e = .returned (.bool (inB n lo hi)) ∧ w = w' := by
  by_cases h1 : lo ≤ n
  · by_cases h2 : n ≤ hi
    all_goals
      go_enter Tryz.func84, Tryz.ntmps84
      go_wp2
      go_ret
      exact ⟨ret_bool (by simp [inB, h1, h2]), rfl⟩
  · go_enter Tryz.func84, Tryz.ntmps84
    go_wp2
    go_ret
    exact ⟨ret_bool (inB_f (by omega)).symm, rfl⟩

theorem valid_any (o : Int) (w : World) : Calls Tryz.prog 183 #[.int .i64 o] w fun e w' => e = .returned (.bool (inB o 0 7)) ∧ w = w' := by
  by_cases h1 : 0 ≤ o
  · by_cases h2 : o ≤ 7
    all_goals
      go_enter Tryz.func183, Tryz.ntmps183
      go_wp2
      go_ret
      exact ⟨ret_bool (by simp [inB, h1, h2]; try omega), rfl⟩
  · go_enter Tryz.func183, Tryz.ntmps183
    go_wp2
    go_ret
    exact ⟨ret_bool (inB_f (by omega)).symm, rfl⟩

theorem orientation_any (o x y : Int) (w : World) : Calls Tryz.prog 182 #[.agg #[.int .i64 o, .int .i64 x, .int .i64 y]] w fun e w' => e = .returned (.int .i64 o) ∧ Below w.heap.size w w' := by
  go_enter Tryz.func182, Tryz.ntmps182
  go_wp2
  go_ret
  exact ⟨rfl, (Below.refl _ _).alloc (Nat.le_refl _) _⟩

theorem implValid_any (o x y : Int) (w : World) : Calls Tryz.prog 148 #[.agg #[.int .i64 o, .int .i64 x, .int .i64 y]] w fun e w' => e = .returned (.bool (vldB o x y)) ∧ Below w.heap.size w w' := by
  by_cases h1 : inB o 0 7 = true
  · by_cases h2 : inB x (-80) 80 = true
    all_goals
      go_enter Tryz.func148, Tryz.ntmps148
      go_wp2_with (first | (go_at_call 84; refine (inRange_any _ _ _ _).mono ?_; rintro e w' ⟨rfl, rfl⟩) | (go_at_call 183; refine (valid_any _ _).mono ?_; rintro e w' ⟨rfl, rfl⟩) | (go_at_call 182; refine (orientation_any _ _ _ _).mono ?_; rintro e w' ⟨rfl, hb⟩; obtain ⟨hs, hz, hc, hf⟩ := bcell hb; (try simp only [World.size_alloc, World.size_setCell, World.size_drew] at hs)))
      go_ret
      exact ⟨ret_bool (by simp [vldB, h1, h2]), ((Below.refl _ _).alloc (Nat.le_refl _) _).trans (hb.mono (by simp))⟩
  · go_enter Tryz.func148, Tryz.ntmps148
    go_wp2_with (first | (go_at_call 84; refine (inRange_any _ _ _ _).mono ?_; rintro e w' ⟨rfl, rfl⟩) | (go_at_call 183; refine (valid_any _ _).mono ?_; rintro e w' ⟨rfl, rfl⟩) | (go_at_call 182; refine (orientation_any _ _ _ _).mono ?_; rintro e w' ⟨rfl, hb⟩; obtain ⟨hs, hz, hc, hf⟩ := bcell hb; (try simp only [World.size_alloc, World.size_setCell, World.size_drew] at hs)))
    go_ret
    exact ⟨ret_bool (by simp [vldB, h1]), ((Below.refl _ _).alloc (Nat.le_refl _) _).trans (hb.mono (by simp))⟩
end Go.Proofs.YtfbalpkjcfdakaaGreatDoor

namespace Go.Proofs.YtfbalpkjcfdakaaGreatDoor
open Go.RowKit
set_option linter.unusedVariables false
set_option linter.unusedSimpArgs false
attribute [local go_sem ↓] Go.wp_at_zero Go.wp_at_succ

theorem l03At_any (x y : Int) (w : World) (h1 : -40 ≤ x) (h2 : x ≤ 39) (h3 : -40 ≤ y) (h4 : y ≤ 39) : Calls Tryz.prog 99 #[.int .i64 x, .int .i64 y] w fun e w' => e = .returned (.int .i64 (cIx x y : Nat)) ∧ w = w' := by
  go_enter Tryz.func99, Tryz.ntmps99
  go_wp2_with fail
  go_ret
  exact ⟨ret_int (cIx_int h1 h2 h3 h4).symm, rfl⟩

/-- The flags lie in block g. -/
def BitsIs (w : World) (g : Nat) (f : Nat → Bool) : Prop := ∀ i, i < 6400 → w.cell? ⟨g, i, none⟩ = some (.bool (f i)) ∧ w.frozen? ⟨g, i, none⟩ = false
theorem BitsIs.lt {w : World} {g : Nat} {f : Nat → Bool} (h : BitsIs w g f) : g < w.heap.size := World.block_lt_of_cell? w ⟨g, 0, none⟩ (h 0 (by omega)).1
theorem BitsIs.below {w w' : World} {g : Nat} {f : Nat → Bool} (h : BitsIs w g f) (hb : Below w.heap.size w w') : BitsIs w' g f := fun i hi =>
  ⟨(hb.cell (p := ⟨g, i, none⟩) h.lt).trans (h i hi).1, (hb.frozen (p := ⟨g, i, none⟩) h.lt).trans (h i hi).2⟩
theorem BitsIs.congr {w : World} {g : Nat} {f f' : Nat → Bool} (h : BitsIs w g f) (e : ∀ i, i < 6400 → f i = f' i) : BitsIs w g f' := fun i hi => ⟨by rw [← e i hi]; exact (h i hi).1, (h i hi).2⟩
theorem BitsIs.set {w : World} {g j : Nat} {f : Nat → Bool} (h : BitsIs w g f) (hj : j < 6400) : BitsIs (w.setCell ⟨g, j, none⟩ (.bool true)) g (fun i => f i || decide (i = j)) := fun i hi => by
  refine ⟨?_, by simpa using (h i hi).2⟩
  by_cases e : i = j
  · subst e
    exact (World.cell?_setCell_same _ _ _ (h i hi).1).trans (by simp)
  · rw [World.cell?_setCell_other _ _ _ _ (by simp <;> omega)]
    rw [(h i hi).1]; simp [e]

set_option maxHeartbeats 4000000 in
theorem l03Has_any (g c : Nat) (f : Nat → Bool) (x y : Int) (w : World) (hB : BitsIs w g f) : Calls Tryz.prog 127 #[.slice (some ⟨g, 0, none⟩) 6400 c, .int .i64 x, .int .i64 y] w fun e w' => e = .returned (.bool (hasB f x y)) ∧ w = w' := by
  by_cases hx : -40 ≤ x ∧ x ≤ 39
  · have ex : inB x (-40) 39 = true := inB_mk hx.1 hx.2
    by_cases hy : -40 ≤ y ∧ y ≤ 39
    · have ey : inB y (-40) 39 = true := inB_mk hy.1 hy.2
      have hi := cIx_lt hx.1 hx.2 hy.1 hy.2
      have hc := (hB _ hi).1
      have hh : hasB f x y = f (cIx x y) := hasB_in ⟨hx, hy⟩
      have HB := Lib.hid hB
      clear hB
      generalize hk : cIx x y = k at hi hc hh
      have q0 : (0 : Int) ≤ (k : Int) := by omega
      have q1 : (k : Int) < 6400 := by omega
      go_enter Tryz.func127, Tryz.ntmps127
      go_wp2_with (first | (go_at_call 82; refine (l01In_any _ _ _ _).mono ?_; rintro e w1 ⟨rfl, rfl⟩; first | rw [ex] | rw [ey]) | (go_at_call 99; refine (l03At_any x y _ hx.1 hx.2 hy.1 hy.2).mono ?_; rintro e w1 ⟨rfl, rfl⟩; rw [hk]))
      go_ret
      exact ⟨ret_bool hh.symm, rfl⟩
    · have ey : inB y (-40) 39 = false := inB_f hy
      have hh : hasB f x y = false := hasB_out (fun h => hy h.2)
      clear hB
      go_enter Tryz.func127, Tryz.ntmps127
      go_wp2_with (first | (go_at_call 82; refine (l01In_any _ _ _ _).mono ?_; rintro e w1 ⟨rfl, rfl⟩; first | rw [ex] | rw [ey]))
      go_ret
      exact ⟨ret_bool hh.symm, rfl⟩
  · have ex : inB x (-40) 39 = false := inB_f hx
    have hh : hasB f x y = false := hasB_out (fun h => hx h.1)
    clear hB
    go_enter Tryz.func127, Tryz.ntmps127
    go_wp2_with (first | (go_at_call 82; refine (l01In_any _ _ _ _).mono ?_; rintro e w1 ⟨rfl, rfl⟩; rw [ex]))
    go_ret
    exact ⟨ret_bool hh.symm, rfl⟩

theorem infoI : (Tryz.prog.info? 2).map (fun i => (i.zero, i.size, i.bytes)) = some (some (.int .i64 0), 1, 8) := by kernel_rfl
theorem addG (g k : Nat) : (⟨g, 0, none⟩ : Addr).add k = ⟨g, k, none⟩ := by
  unfold Addr.add
  split
  · rename_i h; subst h; rfl
  · simp
/-- A list of numbers lies at the head of block h, which is a row of numbers. -/
def IntsIs (B : Nat) (w : World) (h : Nat) (l : List Int) : Prop := B ≤ h ∧ (∃ cur, w.heap[h]? = some (.cells cur 2 (0, 0))) ∧ ∀ k x, l[k]? = some x → w.cell? ⟨h, k, none⟩ = some (.int .i64 x)
/-- A call that hands back a list of numbers. -/
def IntsRes (B : Nat) (l : List Int) (e : Ending) (w : World) : Prop := ∃ h c, e = .returned (.slice (some ⟨h, 0, none⟩) l.length c) ∧ IntsIs B w h l
theorem blk_lt {w : World} {h : Nat} {o : Obj} (e : w.heap[h]? = some o) : h < w.heap.size := by
  rcases Nat.lt_or_ge h w.heap.size with k | k
  · exact k
  · rw [Array.getElem?_eq_none k] at e; cases e
theorem IntsIs.lt {B : Nat} {w : World} {h : Nat} {l : List Int} (hA : IntsIs B w h l) : h < w.heap.size := by obtain ⟨_, ⟨cur, e⟩, _⟩ := hA; exact blk_lt e
theorem own_row {w : World} {B E sz g n m cap : Nat} {xs : List Value} (h : w.ownsRow B E sz (.slice (some ⟨g, 0, none⟩) m cap) n xs) : ∃ cur, w.heap[g]? = some (.cells cur E (0, 0)) := by
  rcases h.2 with ⟨h0, _⟩ | ⟨g', cap', cur, h1, _, h3, _⟩
  · cases h0
  · cases h1; exact ⟨cur, h3⟩
theorem own_keep {w w' : World} {B e sz n : Nat} {v : Value} {xs : List Value} (h : w.ownsRow B e sz v n xs) (hb : Below w.heap.size w w') : w'.ownsRow B e sz v n xs := by
  refine ⟨h.1, ?_⟩
  have hl := h.lt
  rcases h.2 with h' | ⟨g, cap, cur, e1, e2, e3, e4⟩
  · exact .inl h'
  · exact .inr ⟨g, cap, cur, e1, e2, (hb.block g (hl g (by rw [e1]; rfl)).2).trans e3, e4⟩
theorem ints_own {w : World} {B g n cap : Nat} {l : List Int} (h : w.ownsRow B 2 1 (.slice (some ⟨g, 0, none⟩) n cap) n (l.map (Value.int .i64))) : IntsIs B w g l := by
  have hl := h.lt g rfl
  refine ⟨hl.1, own_row h, fun k x hx => ?_⟩
  have := h.cells (g := g) rfl k (.int .i64 x) (by rw [List.getElem?_map, hx]; rfl)
  rwa [addG] at this
theorem IntsIs.below {B : Nat} {W W' : World} {g : Nat} {l : List Int} (h : IntsIs B W g l) (hb : Below W.heap.size W W') : IntsIs B W' g l :=
  ⟨h.1, by obtain ⟨cur, e⟩ := h.2.1; exact ⟨cur, (hb.block g h.lt).trans e⟩, fun k x hx => (hb.cell (show (⟨g, k, none⟩ : Addr).block < W.heap.size from h.lt)).trans (h.2.2 k x hx)⟩
/-- Behind a write into another row. -/
theorem IntsIs.grown {B : Nat} {W W' : World} {g : Nat} {l : List Int} {row : Option Nat} (h : IntsIs B W g l) (hg : W.grownBy W' row) (hne : some g ≠ row) : IntsIs B W' g l :=
  ⟨h.1, by obtain ⟨cur, e⟩ := h.2.1; exact ⟨cur, (hg.block g h.lt hne).trans e⟩, fun k x hx => hg.cell (h.2.2 k x hx) hne⟩
theorem ints_next {W : World} {B : Nat} {v : Value} {n : Nat} {l : List Int} {x : Int} (hn : n = l.length) (h : W.ownsRow B 2 1 v (n + 1) (l.map (Value.int .i64) ++ [.int .i64 x])) :
    ∃ g cap, v = .slice (some ⟨g, 0, none⟩) (l ++ [x]).length cap ∧ W.ownsRow B 2 1 (.slice (some ⟨g, 0, none⟩) (l ++ [x]).length cap) (l ++ [x]).length ((l ++ [x]).map (Value.int .i64)) := by
  subst hn
  have e : (l ++ [x]).length = l.length + 1 := by simp
  rw [e, List.map_append]
  rcases h.2 with ⟨_, h0⟩ | ⟨g, cap, cur, rfl, _⟩
  · omega
  · exact ⟨g, cap, rfl, h⟩

set_option maxHeartbeats 8000000 in
set_option maxRecDepth 100000 in
theorem l03Runs_any (g c : Nat) (f : Nat → Bool) (y : Int) (w : World) (hB : BitsIs w g f) :
    Calls Tryz.prog 117 #[.slice (some ⟨g, 0, none⟩) 6400 c, .int .i64 y] w fun e w' => IntsRes w.heap.size (runsL f y) e w' ∧ Below w.heap.size w w' := by
  obtain ⟨i0, hi, hz0, hz1, hz2⟩ := info_parts infoI
  have HB := Lib.hid hB
  clear hB
  go_enter Tryz.func117, Tryz.ntmps117
  go_wp2_with fail
  go_loopw [5, 6] (fun v x wr => ∃ (k h c' : Nat), k ≤ 81 ∧ x = .int .i64 (-40 + (k : Int)) ∧ v = .slice (some ⟨h, 0, none⟩) (runsTo f y k).length c' ∧ wr.ownsRow w.heap.size 2 1 (.slice (some ⟨h, 0, none⟩) (runsTo f y k).length c') (runsTo f y k).length ((runsTo f y k).map (Value.int .i64)) ∧ Below w.heap.size w wr) (fun _ x _ => (41 - intOf x).toNat)
  case atStart =>
    refine ⟨0, _, _, by omega, rfl, rfl, ?_, by (repeat (first | (with_reducible exact Below.refl _ _) | (with_reducible refine Ext.drewN ?_ _) | (with_reducible refine Below.drew ?_) | (with_reducible refine Ext.alloc ?_ _) | (with_reducible refine Ext.setCell ?_ (by simp; try omega) _) | (with_reducible refine Ext.trans ?_ (by assumption)) | (with_reducible assumption) | exact Below.refl _ _))⟩
    exact World.ownsRow_made w #[] 0 (Nat.le_refl _) (by unfold maxLen; decide) rfl
  case round =>
    obtain ⟨k, h, c', hk, rfl, rfl, hown, hb⟩ := hrel
    have hln := runsTo_len f y k
    by_cases hlt : k < 81
    · obtain ⟨x, hx⟩ : ∃ x : Int, x = -40 + (k : Int) := ⟨_, rfl⟩
      have q0 : x ≤ 40 := by omega
      have q1 : -40 ≤ x := by omega
      have HW := Lib.hid (HB.out.below hb)
      rw [← hx]
      have HX := Lib.hid hx
      cases hc : chg f x y with
      | true =>
        have hc' : (!(hasB f x y == hasB f (x - 1) y)) = true := hc
        have hr := runsTo_yes (f := f) (y := y) (k := k) (by rw [← hx]; exact hc)
        rw [← hx] at hr
        have HR := Lib.hid hr
        clear hc hr hx
        generalize runsTo f y k = l at HR hown hln ⊢
        go_wp2_with (first | (go_at_call 127; refine (l03Has_any g c f _ _ _ HW.out).mono ?_; rintro e w1 ⟨rfl, rfl⟩) | (at_builtin; refine wpList_append_own _ rfl _ _ 148 rfl w.heap.size 2 i0 (.int .i64 0) 1 8 Tryz.underlying148 hi hz0 hz1 hz2 rfl (by decide) _ _ _ rfl (hown.alloc _) ⟨wr.heap.size, 0, none⟩ 1 1 [.int .i64 x] rfl rfl ?c1 ?c2 ?c3 ?c4 ?c5 ?_))
        case c1 =>
          intro j u hj
          match j, hj with
          | 0, hj => simp at hj; subst hj; rw [addG]; simp [go_sem]
        case c2 => intro u hu; simp at hu; subst hu; rfl
        case c3 => unfold maxLen; omega
        case c4 => omega
        case c5 => have := hb.size; (try simp only [World.size_alloc]); omega
        intro v' wn hown' hgrow _
        have hb1 : Below w.heap.size w wn := (hb.alloc hb.size _).grown hgrow (by have := hb.size; simp; omega) (fun j hj => (hown.lt j hj).1)
        obtain ⟨h', c2, rfl, hown1⟩ := ints_next rfl hown'
        clear hown' hgrow hown
        go_wp2_with fail
        go_roundw
        case rel =>
          refine ⟨k + 1, h', c2, by omega, ?_, ?_, ?_, hb1⟩
          · rw [HX.out]; go_num
          · rw [HR.out]
          · rw [HR.out]; exact hown1
        case measure => simp [intOf]; omega
      | false =>
        have hc' : (!(hasB f x y == hasB f (x - 1) y)) = false := hc
        have hr := runsTo_no (f := f) (y := y) (k := k) (by rw [← hx]; exact hc)
        have HR := Lib.hid hr
        clear hc hr hx
        go_wp2_with (first | (go_at_call 127; refine (l03Has_any g c f _ _ _ HW.out).mono ?_; rintro e w1 ⟨rfl, rfl⟩))
        go_roundw
        case rel =>
          refine ⟨k + 1, h, c', by omega, ?_, ?_, ?_, hb⟩
          · rw [HX.out]; go_num
          · rw [HR.out]
          · rw [HR.out]; exact hown
        case measure => simp [intOf]; omega
    · have q1 : ¬ (-40 + (k : Int)) ≤ 40 := by omega
      obtain rfl : k = 81 := by omega
      have HO := Lib.hid (ints_own hown)
      clear hown
      go_wp2_with fail
      go_ret
      exact ⟨⟨h, c', rfl, HO.out⟩, hb⟩
end Go.Proofs.YtfbalpkjcfdakaaGreatDoor

namespace Go.Proofs.YtfbalpkjcfdakaaGreatDoor
open Go.RowKit
set_option linter.unusedVariables false
set_option linter.unusedSimpArgs false
attribute [local go_sem ↓] Go.wp_at_zero Go.wp_at_succ

/-- Flags of the first n rectangles and of rows b .. y-1 of the next one; then of columns a .. x-1 of row y. -/
def fM (P Q R S : Nat → Int) (n : Nat) (y : Int) (i : Nat) : Bool :=
  covF P Q R S n i || (decide (P n ≤ (i % 80 : Nat) - 40) && decide (((i % 80 : Nat) : Int) - 40 < R n) && decide (Q n ≤ (i / 80 : Nat) - 40) && decide (((i / 80 : Nat) : Int) - 40 < y))
def fI (P Q R S : Nat → Int) (n : Nat) (y x : Int) (i : Nat) : Bool :=
  fM P Q R S n y i || (decide (((i / 80 : Nat) : Int) - 40 = y) && decide (P n ≤ (i % 80 : Nat) - 40) && decide (((i % 80 : Nat) : Int) - 40 < x))
theorem fM_start (P Q R S : Nat → Int) (n i : Nat) : covF P Q R S n i = fM P Q R S n (Q n) i := by
  unfold fM
  have h : (decide (Q n ≤ ((i / 80 : Nat) : Int) - 40) && decide (((i / 80 : Nat) : Int) - 40 < Q n)) = false := by rw [Bool.and_eq_false_iff, decide_eq_false_iff_not, decide_eq_false_iff_not]; omega
  rw [Bool.and_assoc, h]; simp
theorem fM_end (P Q R S : Nat → Int) (n i : Nat) : fM P Q R S n (S n) i = covF P Q R S (n + 1) i := by
  unfold fM covF; rw [covB]
theorem fI_start (P Q R S : Nat → Int) (n : Nat) (y : Int) (i : Nat) : fM P Q R S n y i = fI P Q R S n y (P n) i := by
  unfold fI
  have h : (decide (P n ≤ ((i % 80 : Nat) : Int) - 40) && decide (((i % 80 : Nat) : Int) - 40 < P n)) = false := by rw [Bool.and_eq_false_iff, decide_eq_false_iff_not, decide_eq_false_iff_not]; omega
  rw [Bool.and_assoc, h]; simp
theorem fI_end (P Q R S : Nat → Int) (n : Nat) (y : Int) (h : Q n ≤ y) (i : Nat) : fI P Q R S n y (R n) i = fM P Q R S n (y + 1) i := by
  unfold fI fM
  rw [Bool.eq_iff_iff]
  simp only [Bool.or_eq_true, Bool.and_eq_true, decide_eq_true_eq]
  cases covF P Q R S n i <;> simp only [false_or, true_or, or_true, Bool.false_eq_true] <;> omega
theorem fI_step (P Q R S : Nat → Int) (n : Nat) (y x : Int) (h1 : -40 ≤ x) (h2 : x ≤ 39) (h3 : -40 ≤ y) (h4 : y ≤ 39) (hp : P n ≤ x) (i : Nat) : (fI P Q R S n y x i || decide (i = cIx x y)) = fI P Q R S n y (x + 1) i := by
  unfold fI cIx
  rw [Bool.eq_iff_iff]
  simp only [Bool.or_eq_true, Bool.and_eq_true, decide_eq_true_eq]
  cases fM P Q R S n y i <;> simp only [false_or, true_or, or_true, Bool.false_eq_true] <;> omega

def BitsRes (B : Nat) (f : Nat → Bool) (e : Ending) (w : World) : Prop := ∃ g, e = .returned (.slice (some ⟨g, 0, none⟩) 6400 6400) ∧ B ≤ g ∧ BitsIs w g f

theorem infoB : (Tryz.prog.info? 4).map (fun i => (i.zero, i.size, i.bytes)) = some (some (.bool false), 1, 1) := by kernel_rfl
theorem made1 (n j : Nat) (h : j < n) : (madeCells (Value.bool false).cells n).toList[j]? = some (.bool false) := by
  have e : (Value.bool false).cells = #[.bool false] := rfl
  rw [e]
  simp only [madeCells, Array.getElem?_toList, Array.getElem?_map]
  rw [Array.getElem?_eq_getElem (by simpa using h)]
  simp only [Option.map_some, Array.getElem_range]
  simp [Nat.mod_one]
theorem bits_set {w : World} {g k : Nat} {f : Nat → Bool} (h : BitsIs w g f) (hk : k < 6400) : w.cell? ⟨g, k, none⟩ = some (.bool (f k)) ∧ w.frozen? ⟨g, k, none⟩ = false := h k hk

set_option maxHeartbeats 8000000 in
set_option maxRecDepth 100000 in
theorem l03Bits_any (m : Option Addr) (len cap : Nat) (P Q R S : Nat → Int) (w : World) (hlen : len ≤ 1048576) (hR : RectsIs w.heap.size w m len P Q R S) (hv : ∀ i, i < len → rvB (P i) (Q i) (R i) (S i) = true) :
    Calls Tryz.prog 46 #[.slice m len cap] w fun e w' => BitsRes w.heap.size (covF P Q R S len) e w' ∧ Below w.heap.size w w' := by
  have HR := Lib.hid hR
  have HV := Lib.hid hv
  clear hR hv
  obtain ⟨i0, hi, hz0, hz1, hz2⟩ := info_parts infoB
  go_enter Tryz.func46, Tryz.ntmps46
  go_wp2_with (at_make; refine wpList_make_full _ rfl _ _ 63 rfl w.heap.size 4 i0 (.bool false) 1 Tryz.underlying63 hi hz0 hz1 .i64 .i64 6400 6400 6400 rfl rfl rfl rfl (by rw [hz2]; omega) (by unfold maxLen; omega) (Nat.le_refl _) ?_; intro w1 own1 grow1)
  have hB1 : Below w.heap.size w w1 := (Below.refl _ _).grown grow1 (Nat.le_refl _) (fun k hk => by cases hk)
  have hF1 : BitsIs w1 w.heap.size (covF P Q R S 0) := fun k hk => by
    refine ⟨?_, own1.frozenAt _⟩
    rw [own1.cellAt _ (by omega)]
    exact made1 _ _ (by omega)
  have HF1 := Lib.hid hF1
  clear own1 grow1 hi hz0 hz1 hz2 hF1
  go_wp2_with fail
  go_loopw [4] (fun s wr => ∃ i : Nat, i ≤ len ∧ s = .int .i64 i ∧ Below w.heap.size w wr ∧ Hid (BitsIs wr w.heap.size (covF P Q R S i))) (fun s _ => len - (intOf s).toNat)
  case atStart => exact ⟨0, by omega, rfl, hB1, HF1⟩
  case round =>
    obtain ⟨i, hi, rfl, hW, HF⟩ := hrel
    by_cases hlt : i < len
    · obtain ⟨b1, o1, rfl, hb1, c0, c1, c2, c3⟩ := HR.out i hlt
      obtain ⟨v1, v2, v3, v4, v5, v6⟩ := rvB_t (HV.out i hlt)
      have q1 : (i : Int) < (len : Int) := by omega
      have q0 : (0 : Int) ≤ (i : Int) := by omega
      have d1 := keepC hW c1
      go_wp2_with fail
      go_loopw [5] (fun s wy => ∃ y : Int, Q i ≤ y ∧ y ≤ S i ∧ s = .int .i64 y ∧ Below w.heap.size w wy ∧ Hid (BitsIs wy w.heap.size (fM P Q R S i y))) (fun s _ => (S i - intOf s).toNat)
      case atStart => exact ⟨Q i, Int.le_refl _, by omega, rfl, hW, Lib.hid (HF.out.congr fun j _ => fM_start P Q R S i j)⟩
      case round =>
        obtain ⟨y, hy0, hy1, rfl, hY, HG⟩ := hrel
        have e3 := keepC hY c3
        by_cases hy : y < S i
        · have e0 := keepC hY c0
          go_wp2_with fail
          go_loopw [6] (fun s wx => ∃ x : Int, P i ≤ x ∧ x ≤ R i ∧ s = .int .i64 x ∧ Below w.heap.size w wx ∧ Hid (BitsIs wx w.heap.size (fI P Q R S i y x))) (fun s _ => (R i - intOf s).toNat)
          case atStart => exact ⟨P i, Int.le_refl _, by omega, rfl, hY, Lib.hid (HG.out.congr fun j _ => fI_start P Q R S i y j)⟩
          case round =>
            obtain ⟨x, hx0, hx1, rfl, hX, HH⟩ := hrel
            have k2 := keepC hX c2
            by_cases hx : x < R i
            · have hk := cIx_lt (x := x) (y := y) (by omega) (by omega) (by omega) (by omega)
              obtain ⟨g1, g2⟩ := bits_set HH.out hk
              have hstep := fun j (_ : j < 6400) => fI_step P Q R S i y x (by omega) (by omega) (by omega) (by omega) hx0 j
              have HS := Lib.hid ((HH.out.set hk).congr hstep)
              clear hstep
              generalize hkk : cIx x y = k at hk g1 g2 HS
              have r0 : (0 : Int) ≤ (k : Int) := by omega
              have r1 : (k : Int) < 6400 := by omega
              go_wp2_with (go_at_call 99; refine (l03At_any x y _ (by omega) (by omega) (by omega) (by omega)).mono ?_; rintro e wz ⟨rfl, rfl⟩; rw [hkk])
              go_roundw
              case rel => exact ⟨x + 1, by omega, by omega, by go_num, hX.setCell (Nat.le_refl _) _, HS⟩
              case measure => simp [intOf]; omega
            · obtain rfl : x = R i := by omega
              go_wp2_with fail
              go_roundw
              case rel => exact ⟨y + 1, by omega, by omega, by go_num, hX, Lib.hid (HH.out.congr fun j _ => fI_end P Q R S i y hy0 j)⟩
              case measure => simp [intOf]; omega
        · obtain rfl : y = S i := by omega
          go_wp2_with fail
          go_roundw
          case rel => exact ⟨i + 1, by omega, by go_num, hY, Lib.hid (HG.out.congr fun j _ => fM_end P Q R S i j)⟩
          case measure => simp [intOf]; omega
    · have q1 : ¬ (i : Int) < (len : Int) := by omega
      obtain rfl : i = len := by omega
      go_wp2_with fail
      go_ret
      exact ⟨⟨w.heap.size, rfl, Nat.le_refl _, HF.out⟩, hW⟩
end Go.Proofs.YtfbalpkjcfdakaaGreatDoor

namespace Go.Proofs.YtfbalpkjcfdakaaGreatDoor
open Go.RowKit
set_option linter.unusedVariables false
set_option linter.unusedSimpArgs false
attribute [local go_sem ↓] Go.wp_at_zero Go.wp_at_succ

theorem IntsIs.at {B : Nat} {w : World} {h : Nat} {l : List Int} (hA : IntsIs B w h l) {k : Nat} (hk : k < l.length) : w.cell? ⟨h, k, none⟩ = some (.int .i64 (l.getD k 0)) :=
  hA.2.2 k _ (by rw [List.getD, List.getElem?_eq_getElem hk]; rfl)

theorem ext_getD {l l' : List Int} (h : l.length = l'.length) (hg : ∀ j, j < l.length → l.getD j 0 = l'.getD j 0) : l = l' := by
  refine List.ext_getElem h fun i h1 h2 => ?_
  have := hg i h1
  rw [List.getD, List.getD, List.getElem?_eq_getElem h1, List.getElem?_eq_getElem h2] at this
  exact this

set_option maxHeartbeats 8000000 in
theorem l03Equal_any (B B' g h c c' : Nat) (l l' : List Int) (w : World) (hA : IntsIs B w g l) (hB : IntsIs B' w h l') (hl : l.length ≤ 1000) (hl' : l'.length ≤ 1000) :
    Calls Tryz.prog 118 #[.slice (some ⟨g, 0, none⟩) l.length c, .slice (some ⟨h, 0, none⟩) l'.length c'] w fun e w' => e = .returned (.bool (decide (l = l'))) ∧ Below w.heap.size w w' := by
  have HA := Lib.hid hA
  have HB := Lib.hid hB
  clear hA hB
  obtain ⟨n, hn⟩ : ∃ n, n = l.length := ⟨_, rfl⟩
  obtain ⟨n', hn'⟩ : ∃ n', n' = l'.length := ⟨_, rfl⟩
  have HN := Lib.hid hn
  have HN' := Lib.hid hn'
  rw [← hn, ← hn']
  rw [← hn] at hl
  rw [← hn'] at hl'
  clear hn hn'
  by_cases hne : n = n'
  · subst hne
    have e0 : ((n : Int) != (n : Int)) = false := by simp
    go_enter Tryz.func118, Tryz.ntmps118
    go_wp2_with fail
    go_loopw [5] (fun s wr => ∃ k : Nat, k ≤ n ∧ s = .int .i64 k ∧ Below w.heap.size w wr ∧ ∀ j, j < k → l.getD j 0 = l'.getD j 0) (fun s _ => n - (intOf s).toNat)
    case atStart => exact ⟨0, by omega, rfl, Below.refl _ _, fun j hj => by omega⟩
    case round =>
      obtain ⟨k, hk, rfl, hW, heq⟩ := hrel
      have HQ := Lib.hid heq
      clear heq
      by_cases hlt : k < n
      · have q1 : (k : Int) < (n : Int) := by omega
        have q0 : (0 : Int) ≤ (k : Int) := by omega
        have a1 := keepC hW (HA.out.at (k := k) (by have := HN.out; omega))
        have a2 := keepC hW (HB.out.at (k := k) (by have := HN'.out; omega))
        obtain ⟨u, hu⟩ : ∃ u, u = l.getD k 0 := ⟨_, rfl⟩
        obtain ⟨v, hv⟩ : ∃ v, v = l'.getD k 0 := ⟨_, rfl⟩
        rw [← hu] at a1
        rw [← hv] at a2
        have HU := Lib.hid hu
        have HV := Lib.hid hv
        clear hu hv
        by_cases huv : u = v
        · have e1 : (u != v) = false := by simp [huv]
          have HUV := Lib.hid huv
          clear huv
          go_wp2_with fail
          go_region_held3 (fun w' => Below wr.heap.size wr w' ∧ w'.cell? ⟨g, k, none⟩ = some (.int .i64 u) ∧ w'.cell? ⟨h, k, none⟩ = some (.int .i64 v))
            (first | ((try dsimp only); go_split_ands; (repeat' (with_reducible refine And.intro ?_ ?_)) <;> first | ((repeat (with_reducible refine keepS ?_ (by simp; try omega) _)); (first | (with_reducible assumption) | (with_reducible exact keepC (by assumption) (by assumption)) | (with_reducible exact keepA (by assumption) _) | (with_reducible exact keepR (by assumption) (by omega) _))) | ((try simp only [World.size_alloc, World.size_setCell, World.size_drew]); omega) | (refine Mats.below hM ?_ hM.size; (repeat (first | (with_reducible exact Below.refl _ _) | (with_reducible refine Ext.drewN ?_ _) | (with_reducible refine Below.drew ?_) | (with_reducible refine Ext.alloc ?_ _) | (with_reducible refine Ext.setCell ?_ (by simp; try omega) _) | (with_reducible refine Ext.trans ?_ (by assumption)) | (with_reducible assumption) | exact Below.refl _ _)); done) | ((repeat (first | (with_reducible exact Below.refl _ _) | (with_reducible refine Ext.drewN ?_ _) | (with_reducible refine Below.drew ?_) | (with_reducible refine Ext.alloc ?_ _) | (with_reducible refine Ext.setCell ?_ (by simp; try omega) _) | (with_reducible refine Ext.trans ?_ (by assumption)) | (with_reducible assumption) | exact Below.refl _ _)); done) | (go_keep; done)))
            (fail)
          go_wp2_with fail
          go_roundw
          case rel => exact ⟨k + 1, by omega, by go_num, by (repeat (first | (with_reducible exact Below.refl _ _) | (with_reducible refine Ext.drewN ?_ _) | (with_reducible refine Below.drew ?_) | (with_reducible refine Ext.alloc ?_ _) | (with_reducible refine Ext.setCell ?_ (by simp; try omega) _) | (with_reducible refine Ext.trans ?_ (by assumption)) | (with_reducible assumption) | exact Below.refl _ _)), fun j hj => by
            by_cases e : j = k
            · subst e; rw [← HU.out, ← HV.out]; exact HUV.out
            · exact HQ.out j (by omega)⟩
          case measure => simp [intOf]; omega
        · have e1 : (u != v) = true := by simp [huv]
          have hres : decide (l = l') = false := decide_eq_false (fun e => huv (by rw [HU.out, HV.out, e]))
          clear huv
          go_wp2_with fail
          go_region_held3 (fun w' => Below wr.heap.size wr w' ∧ w'.cell? ⟨g, k, none⟩ = some (.int .i64 u) ∧ w'.cell? ⟨h, k, none⟩ = some (.int .i64 v))
            (first | ((try dsimp only); go_split_ands; (repeat' (with_reducible refine And.intro ?_ ?_)) <;> first | ((repeat (with_reducible refine keepS ?_ (by simp; try omega) _)); (first | (with_reducible assumption) | (with_reducible exact keepC (by assumption) (by assumption)) | (with_reducible exact keepA (by assumption) _) | (with_reducible exact keepR (by assumption) (by omega) _))) | ((try simp only [World.size_alloc, World.size_setCell, World.size_drew]); omega) | (refine Mats.below hM ?_ hM.size; (repeat (first | (with_reducible exact Below.refl _ _) | (with_reducible refine Ext.drewN ?_ _) | (with_reducible refine Below.drew ?_) | (with_reducible refine Ext.alloc ?_ _) | (with_reducible refine Ext.setCell ?_ (by simp; try omega) _) | (with_reducible refine Ext.trans ?_ (by assumption)) | (with_reducible assumption) | exact Below.refl _ _)); done) | ((repeat (first | (with_reducible exact Below.refl _ _) | (with_reducible refine Ext.drewN ?_ _) | (with_reducible refine Below.drew ?_) | (with_reducible refine Ext.alloc ?_ _) | (with_reducible refine Ext.setCell ?_ (by simp; try omega) _) | (with_reducible refine Ext.trans ?_ (by assumption)) | (with_reducible assumption) | exact Below.refl _ _)); done) | (go_keep; done)))
            (fail)
          go_wp2_with fail
          go_ret
          exact ⟨ret_bool hres.symm, by (repeat (first | (with_reducible exact Below.refl _ _) | (with_reducible refine Ext.drewN ?_ _) | (with_reducible refine Below.drew ?_) | (with_reducible refine Ext.alloc ?_ _) | (with_reducible refine Ext.setCell ?_ (by simp; try omega) _) | (with_reducible refine Ext.trans ?_ (by assumption)) | (with_reducible assumption) | exact Below.refl _ _))⟩
      · have q1 : ¬ (k : Int) < (n : Int) := by omega
        obtain rfl : k = n := by omega
        have hres : decide (l = l') = true := decide_eq_true (ext_getD (by rw [← HN.out, ← HN'.out]) (fun j hj => HQ.out j (by have := HN.out; omega)))
        go_wp2_with fail
        go_ret
        first | exact ⟨ret_bool hres.symm, hW⟩ | exact ⟨rfl, hW⟩
  · have e0 : ((n : Int) != (n' : Int)) = true := by simp; omega
    have hres : decide (l = l') = false := decide_eq_false (fun e => hne (by rw [HN.out, HN'.out, e]))
    go_enter Tryz.func118, Tryz.ntmps118
    go_wp2_with fail
    go_ret
    exact ⟨ret_bool hres.symm, Below.refl _ _⟩

theorem allV_succ (P Q R S : Nat → Int) (n : Nat) : allV P Q R S (n + 1) = (allV P Q R S n && rvB (P n) (Q n) (R n) (S n)) := by
  unfold allV; rw [List.range_succ, List.all_append]; simp
/-- Is a list short enough, and are all of its rectangles valid? -/
def okV (P Q R S : Nat → Int) (n : Nat) : Bool := decide (n ≤ 3200) && allV P Q R S n

set_option maxHeartbeats 8000000 in
theorem l03Valid_any (m : Option Addr) (len cap : Nat) (P Q R S : Nat → Int) (w : World) (hlen : len ≤ 1048576) (hR : RectsIs w.heap.size w m len P Q R S) :
    Calls Tryz.prog 92 #[.slice m len cap] w fun e w' => e = .returned (.bool (okV P Q R S len)) ∧ Below w.heap.size w w' := by
  by_cases hbig : 3200 < len
  · have q0 : (3200 : Int) < (len : Int) := by omega
    have hres : okV P Q R S len = false := by unfold okV; rw [decide_eq_false (by omega)]; rfl
    go_enter Tryz.func92, Tryz.ntmps92
    go_wp2_with fail
    go_ret
    exact ⟨ret_bool hres.symm, Below.refl _ _⟩
  · have q0 : ¬ (3200 : Int) < (len : Int) := by omega
    have hok : okV P Q R S len = allV P Q R S len := by unfold okV; rw [decide_eq_true (by omega)]; rfl
    have HK := Lib.hid hok
    have HR := Lib.hid hR
    clear hok hR
    go_enter Tryz.func92, Tryz.ntmps92
    go_wp2_with fail
    go_loopw [3] (fun s wr => ∃ i : Nat, i ≤ len ∧ s = .int .i64 i ∧ Below w.heap.size w wr ∧ allV P Q R S i = true) (fun s _ => len - (intOf s).toNat)
    case atStart => exact ⟨0, by omega, rfl, Below.refl _ _, rfl⟩
    case round =>
      obtain ⟨i, hi, rfl, hW, hall⟩ := hrel
      by_cases hlt : i < len
      · obtain ⟨b1, o1, rfl, hb1, c0, c1, c2, c3⟩ := HR.out i hlt
        have q1 : (i : Int) < (len : Int) := by omega
        have q2 : (0 : Int) ≤ (i : Int) := by omega
        have d0 := keepC hW c0
        have d1 := keepC hW c1
        have d2 := keepC hW c2
        have d3 := keepC hW c3
        clear c0 c1 c2 c3
        cases hv : rvB (P i) (Q i) (R i) (S i) with
        | false =>
          have hres : okV P Q R S len = false := by rw [HK.out]; exact allV_f hlt hv
          go_wp2_with (go_at_call 134; refine (specValidRect_any _ _ _ _ _).mono ?_; rintro e w1 ⟨rfl, bw1⟩; rw [hv])
          go_ret
          exact ⟨ret_bool hres.symm, by (repeat (first | (with_reducible exact Below.refl _ _) | (with_reducible refine Ext.drewN ?_ _) | (with_reducible refine Below.drew ?_) | (with_reducible refine Ext.alloc ?_ _) | (with_reducible refine Ext.setCell ?_ (by simp; try omega) _) | (with_reducible refine Ext.trans ?_ (by assumption)) | (with_reducible assumption) | exact Below.refl _ _))⟩
        | true =>
          have hnext : allV P Q R S (i + 1) = true := by rw [allV_succ, hall, hv]; rfl
          have HX := Lib.hid hnext
          clear hnext
          go_wp2_with (go_at_call 134; refine (specValidRect_any _ _ _ _ _).mono ?_; rintro e w1 ⟨rfl, bw1⟩; rw [hv])
          go_roundw
          case rel => exact ⟨i + 1, by omega, by go_num, by (repeat (first | (with_reducible exact Below.refl _ _) | (with_reducible refine Ext.drewN ?_ _) | (with_reducible refine Below.drew ?_) | (with_reducible refine Ext.alloc ?_ _) | (with_reducible refine Ext.setCell ?_ (by simp; try omega) _) | (with_reducible refine Ext.trans ?_ (by assumption)) | (with_reducible assumption) | exact Below.refl _ _)), HX.out⟩
          case measure => simp [intOf]; omega
      · have q1 : ¬ (i : Int) < (len : Int) := by omega
        obtain rfl : i = len := by omega
        have hres : okV P Q R S i = true := by rw [HK.out]; exact hall
        go_wp2_with fail
        go_ret
        first | exact ⟨ret_bool hres.symm, hW⟩ | exact ⟨rfl, hW⟩
end Go.Proofs.YtfbalpkjcfdakaaGreatDoor
