/- The walk of FnExactBoundingBox. Condition: the rectangles' cells are in memory. -/
import Derived.Test.YtdcddneanbplpaaDoorReL
namespace Go.Proofs.YtdcddneanbplpaaDoor
open Go.RowKit
set_option linter.unusedVariables false
set_option linter.unusedSimpArgs false

set_option maxHeartbeats 8000000 in
theorem walkBoundingBox (a : Option Addr) (n c1 : Nat) (w : World) (hn : n ≤ maxLen) (hPe : ∃ P Q R S, RectsIs w.heap.size w a n P Q R S) (hC : ChipW w) :
    Calls Tryd.prog 9 #[.slice a n c1] w fun e w' => e = .returned (.bool true) ∧ Below w.heap.size w w' := by
  obtain ⟨P, Q, R, S, hP⟩ := hPe
  have HP := Lib.hid hP
  clear hP
  by_cases h1 : n ≤ 1048576
  case neg =>
    go_enter Tryd.func9, Tryd.ntmps9
    go_wp2_with fail
    refine (szRectS_any a n c1 1048576 _ (by omega) (by omega) hn).mono ?_
    rintro e w1 ⟨rfl, rfl⟩
    rw [if_neg (by omega)]
    go_wp2_with fail
    go_ret
    exact ⟨rfl, Below.refl _ _⟩
  have q1 : ¬ ((1048576 : Int) - n < 0) := by omega
  have he : eqRB (bb0 P Q R S n) (bb1 P Q R S n) (bb2 P Q R S n) (bb3 P Q R S n) (bb0 P Q R S n) (bb1 P Q R S n) (bb2 P Q R S n) (bb3 P Q R S n) = true := by simp [eqRB]
  go_enter Tryd.func9, Tryd.ntmps9
  go_wp2_with fail
  refine (szRectS_any a n c1 1048576 _ (by omega) (by omega) hn).mono ?_
  rintro e w1 ⟨rfl, rfl⟩
  rw [if_pos (by omega)]
  go_wp2_with fail
  refine (toRectS_any a n c1 P Q R S _ h1 HP.out).mono ?_
  rintro e w1 ⟨g1, ga1, gb1, rfl, bw1, P1⟩
  go_wp2_with fail
  refine (specBB_any (some ⟨g1, 0, none⟩) n n P Q R S _ h1 P1).mono ?_
  rintro e w3 ⟨rfl, bw3⟩
  have B3 := Ext.trans bw1 bw3
  unfold bbV
  go_wp2_with fail
  have B3' : Below w.heap.size w (w3.alloc (.cells #[.int .i64 (bb0 P Q R S n), .int .i64 (bb1 P Q R S n), .int .i64 (bb2 P Q R S n), .int .i64 (bb3 P Q R S n)] 25)) := Ext.alloc B3 _
  refine (toRectS_any a n c1 P Q R S _ h1 (HP.out.ext B3')).mono ?_
  rintro e w4 ⟨g4, ga4, gb4, rfl, bw4, P4⟩
  have s4 := bw4.size
  simp only [World.size_alloc] at s4
  have x0 : w4.cell? ⟨w3.heap.size, 0, none⟩ = some (.int .i64 (bb0 P Q R S n)) := keepC bw4 (by simp)
  have x1 : w4.cell? ⟨w3.heap.size, 1, none⟩ = some (.int .i64 (bb1 P Q R S n)) := keepC bw4 (by simp)
  have x2 : w4.cell? ⟨w3.heap.size, 2, none⟩ = some (.int .i64 (bb2 P Q R S n)) := keepC bw4 (by simp)
  have x3 : w4.cell? ⟨w3.heap.size, 3, none⟩ = some (.int .i64 (bb3 P Q R S n)) := keepC bw4 (by simp)
  have B4 := Ext.trans B3' bw4
  clear bw1 bw3 bw4 P1
  go_wp2_with fail
  refine (implBB_any (some ⟨g4, 0, none⟩) n P Q R S _ (hC.ext B4) h1 P4).mono ?_
  rintro e w6 ⟨rfl, bw6⟩
  have P6 := P4.ext (Ext.alloc bw6 (.cells #[.int .i64 (bb0 P Q R S n), .int .i64 (bb1 P Q R S n), .int .i64 (bb2 P Q R S n), .int .i64 (bb3 P Q R S n)] 25))
  have x0 := keepC bw6 x0
  have x1 := keepC bw6 x1
  have x2 := keepC bw6 x2
  have x3 := keepC bw6 x3
  have l6 : w3.heap.size < w6.heap.size := World.block_lt_of_cell? w6 ⟨w3.heap.size, 0, none⟩ x0
  have B6 : Below w.heap.size w (w6.alloc (.cells #[.int .i64 (bb0 P Q R S n), .int .i64 (bb1 P Q R S n), .int .i64 (bb2 P Q R S n), .int .i64 (bb3 P Q R S n)] 25)) := Ext.alloc (Ext.trans B4 bw6) _
  clear bw6 P4
  unfold bbV
  go_wp2_with fail
  refine (eqRect_any _ _ _ _ _ _ _ _ _).mono ?_
  rintro e w7 ⟨rfl, bw7⟩
  have P7 := P6.ext bw7
  have B7 := Ext.trans B6 bw7
  clear bw7 P6 x0 x1 x2 x3
  rw [he]
  go_wp2_with fail
  refine (toRectS_any a n c1 P Q R S _ h1 (HP.out.ext B7)).mono ?_
  rintro e w8 ⟨g8, ga8, gb8, rfl, bw8, P8⟩
  have P7' := P7.ext bw8
  have B8 := Ext.trans B7 bw8
  clear bw8 P7
  go_wp2_with fail
  refine (eqRectS_any (some ⟨g4, 0, none⟩) (some ⟨g8, 0, none⟩) n n n P Q R S _ h1 P7' P8).mono ?_
  rintro e w9 ⟨rfl, bw9⟩
  have B9 := Ext.trans B8 bw9
  go_wp2_with fail
  go_ret
  exact ⟨rfl, B9⟩
end Go.Proofs.YtdcddneanbplpaaDoor
