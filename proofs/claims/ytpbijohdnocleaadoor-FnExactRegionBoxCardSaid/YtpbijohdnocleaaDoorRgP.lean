/- The walk of FnExactRegionBox over a contract of the program's function. Condition: the rectangles' cells are in memory. -/
import Derived.Test.YtpbijohdnocleaaDoorRgN
import Derived.Test.YtpbijohdnocleaaDoorReH
import Derived.Test.YtpbijohdnocleaaDoorRiC
namespace Go.Proofs.YtpbijohdnocleaaDoor
open Go.RowKit
set_option linter.unusedVariables false
set_option linter.unusedSimpArgs false

/-- What RegionBox answers. -/
def rbB (P Q R S : Nat → Int) (n : Nat) : Bool := okR P Q R S n && decide (0 < n)
def rb0 (P Q R S : Nat → Int) (n : Nat) : Int := if rbB P Q R S n = true then mn (sh P) (P 0) (n - 1) else 0
def rb1 (P Q R S : Nat → Int) (n : Nat) : Int := if rbB P Q R S n = true then mn (sh Q) (Q 0) (n - 1) else 0
def rb2 (P Q R S : Nat → Int) (n : Nat) : Int := if rbB P Q R S n = true then mx (sh R) (R 0) (n - 1) else 0
def rb3 (P Q R S : Nat → Int) (n : Nat) : Int := if rbB P Q R S n = true then mx (sh S) (S 0) (n - 1) else 0
theorem specRegionBox_all (m : Option Addr) (len cap : Nat) (P Q R S : Nat → Int) (w : World) (hlen : len ≤ 1048576) (hR : RectsIs w.heap.size w m len P Q R S) :
    Calls Tryd.prog 32 #[.slice m len cap] w fun e w' => e = .returned (.tuple #[.agg #[.int .i64 (rb0 P Q R S len), .int .i64 (rb1 P Q R S len), .int .i64 (rb2 P Q R S len), .int .i64 (rb3 P Q R S len)], .bool (rbB P Q R S len)]) ∧ Below w.heap.size w w' := by
  cases h : rbB P Q R S len with
  | true =>
    have h' := h
    unfold rbB at h'
    rw [Bool.and_eq_true, decide_eq_true_eq] at h'
    rw [rb0, if_pos h, rb1, if_pos h, rb2, if_pos h, rb3, if_pos h]
    exact specRegionBox_yes m len cap P Q R S w hlen hR h'.1 h'.2
  | false =>
    have h' := h
    unfold rbB at h'
    rw [Bool.and_eq_false_iff, decide_eq_false_iff_not] at h'
    have hf : ¬ rbB P Q R S len = true := by simp [h]
    rw [rb0, if_neg hf, rb1, if_neg hf, rb2, if_neg hf, rb3, if_neg hf]
    exact specRegionBox_no m len cap P Q R S w hlen hR (h'.imp id (by omega))
/-- The contract that the walk asks of the program's RegionBox. -/
def ImplRegionBox : Prop := ∀ (m : Option Addr) (n : Nat) (P Q R S : Nat → Int) (W : World), n ≤ 1048576 → EnvW W → RectsIs W.heap.size W m n P Q R S → Calls Tryd.prog 33 #[.slice m n n] W fun e W' => e = .returned (.tuple #[.agg #[.int .i64 (rb0 P Q R S n), .int .i64 (rb1 P Q R S n), .int .i64 (rb2 P Q R S n), .int .i64 (rb3 P Q R S n)], .bool (rbB P Q R S n)]) ∧ Below W.heap.size W W'

set_option maxHeartbeats 8000000 in
theorem walkRegionBox (hI : ImplRegionBox) (a : Option Addr) (n c1 : Nat) (w : World) (hn : n ≤ maxLen) (hPe : ∃ P Q R S, RectsIs w.heap.size w a n P Q R S) (hDb : EnvW w) :
    Calls Tryd.prog 7 #[.slice a n c1] w fun e w' => e = .returned (.bool true) ∧ Below w.heap.size w w' := by
  obtain ⟨P, Q, R, S, hP⟩ := hPe
  have HP := Lib.hid hP
  have HI := Lib.hid hI
  have HD := Lib.hid hDb
  clear hP hI hDb
  by_cases h1 : n ≤ 1048576
  case neg =>
    go_enter Tryd.func7, Tryd.ntmps7
    go_wp2_with fail
    refine (szRectS_any a n c1 1048576 _ (by omega) (by omega) hn).mono ?_
    rintro e w1 ⟨rfl, rfl⟩
    rw [if_neg (by omega)]
    go_wp2_with fail
    go_ret
    exact ⟨rfl, Below.refl _ _⟩
  have q1 : ¬ ((1048576 : Int) - n < 0) := by omega
  have hne : (!(rbB P Q R S n == rbB P Q R S n)) = false := by simp
  have hne' : (rbB P Q R S n != rbB P Q R S n) = false := by simp
  have he : eqRB (rb0 P Q R S n) (rb1 P Q R S n) (rb2 P Q R S n) (rb3 P Q R S n) (rb0 P Q R S n) (rb1 P Q R S n) (rb2 P Q R S n) (rb3 P Q R S n) = true := by simp [eqRB]
  go_enter Tryd.func7, Tryd.ntmps7
  go_wp2_with fail
  refine (szRectS_any a n c1 1048576 _ (by omega) (by omega) hn).mono ?_
  rintro e w1 ⟨rfl, rfl⟩
  rw [if_pos (by omega)]
  go_wp2_with fail
  refine (toRectS_any a n c1 P Q R S _ h1 HP.out).mono ?_
  rintro e w1 ⟨g1, ga1, gb1, rfl, bw1, P1⟩
  go_wp2_with fail
  refine (specRegionBox_all (some ⟨g1, 0, none⟩) n n P Q R S _ h1 P1).mono ?_
  rintro e w3 ⟨rfl, bw3⟩
  have B3 := Ext.trans bw1 bw3
  go_wp2_with fail
  have B3' : Below w.heap.size w (w3.alloc (.cells #[.int .i64 (rb0 P Q R S n), .int .i64 (rb1 P Q R S n), .int .i64 (rb2 P Q R S n), .int .i64 (rb3 P Q R S n)] 36)) := Ext.alloc B3 _
  refine (toRectS_any a n c1 P Q R S _ h1 (HP.out.ext B3')).mono ?_
  rintro e w4 ⟨g4, ga4, gb4, rfl, bw4, P4⟩
  have s4 := bw4.size
  simp only [World.size_alloc] at s4
  have x0 : w4.cell? ⟨w3.heap.size, 0, none⟩ = some (.int .i64 (rb0 P Q R S n)) := keepC bw4 (by simp)
  have x1 : w4.cell? ⟨w3.heap.size, 1, none⟩ = some (.int .i64 (rb1 P Q R S n)) := keepC bw4 (by simp)
  have x2 : w4.cell? ⟨w3.heap.size, 2, none⟩ = some (.int .i64 (rb2 P Q R S n)) := keepC bw4 (by simp)
  have x3 : w4.cell? ⟨w3.heap.size, 3, none⟩ = some (.int .i64 (rb3 P Q R S n)) := keepC bw4 (by simp)
  have B4 := Ext.trans B3' bw4
  clear bw1 bw3 bw4 P1
  go_wp2_with fail
  refine (HI.out (some ⟨g4, 0, none⟩) n P Q R S _ h1 (HD.out.ext B4) P4).mono ?_
  rintro e w6 ⟨rfl, bw6⟩
  have P6 := P4.ext (Ext.alloc bw6 (.cells #[.int .i64 (rb0 P Q R S n), .int .i64 (rb1 P Q R S n), .int .i64 (rb2 P Q R S n), .int .i64 (rb3 P Q R S n)] 36))
  have x0 := keepC bw6 x0
  have x1 := keepC bw6 x1
  have x2 := keepC bw6 x2
  have x3 := keepC bw6 x3
  have l6 : w3.heap.size < w6.heap.size := World.block_lt_of_cell? w6 ⟨w3.heap.size, 0, none⟩ x0
  have B6 : Below w.heap.size w (w6.alloc (.cells #[.int .i64 (rb0 P Q R S n), .int .i64 (rb1 P Q R S n), .int .i64 (rb2 P Q R S n), .int .i64 (rb3 P Q R S n)] 36)) := Ext.alloc (Ext.trans B4 bw6) _
  clear bw6 P4
  go_wp2_with fail
  refine (eqRect_any _ _ _ _ _ _ _ _ _).mono ?_
  rintro e w7 ⟨rfl, bw7⟩
  have P7 := P6.ext bw7
  have B7 := Ext.trans B6 bw7
  clear bw7 P6 x0 x1 x2 x3
  rw [he]
  go_wp2_with fail
  refine (toRectS_any a n c1 P Q R S _ h1 (HP.out.ext B7)).mono ?_
  rintro e w8 ⟨g8, ga8, gb8, rfl, bw8, P8⟩
  have P7' := P7.ext bw8
  have B8 := Ext.trans B7 bw8
  clear bw8 P7
  go_wp2_with fail
  refine (eqRectS_any (some ⟨g4, 0, none⟩) (some ⟨g8, 0, none⟩) n n n P Q R S _ h1 P7' P8).mono ?_
  rintro e w9 ⟨rfl, bw9⟩
  have B9 := Ext.trans B8 bw9
  go_wp2_with fail
  go_ret
  exact ⟨rfl, B9⟩
end Go.Proofs.YtpbijohdnocleaaDoor
