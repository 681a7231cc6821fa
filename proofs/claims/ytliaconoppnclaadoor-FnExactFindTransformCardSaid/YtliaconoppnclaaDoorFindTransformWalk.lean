/- The walk of FnExactFindTransform. Conditions: the points' cells are in memory; the variable orientationMatrices holds its table. -/
import Derived.Test.YtliaconoppnclaaDoorTrX
namespace Go.Proofs.YtliaconoppnclaaDoor
open Go.RowKit
set_option linter.unusedVariables false
set_option linter.unusedSimpArgs false

set_option maxHeartbeats 8000000 in
theorem walkFT (a : Option Addr) (n c1 : Nat) (b : Option Addr) (m c2 : Nat) (w : World) (hn : n ≤ maxLen) (hPe : ∃ X Y, PtsIs w.heap.size w a n X Y) (hm : m ≤ maxLen) (hQe : ∃ U V, PtsIs w.heap.size w b m U V) (hM : Mats w) :
    Calls Tryd.prog 10 #[.slice a n c1, .slice b m c2] w fun e w' => e = .returned (.bool true) ∧ Below w.heap.size w w' := by
  obtain ⟨X, Y, hP⟩ := hPe
  obtain ⟨U, V, hQ⟩ := hQe
  have HP := Lib.hid hP
  have HQ := Lib.hid hQ
  clear hP hQ
  by_cases h1 : n ≤ 1048576
  case neg =>
    go_enter Tryd.func10, Tryd.ntmps10
    go_wp2_with fail
    refine (szPointS_any a n c1 1048576 _ (by omega) (by omega) hn).mono ?_
    rintro e w1 ⟨rfl, rfl⟩
    rw [if_neg (by omega)]
    go_wp2_with fail
    go_ret
    exact ⟨rfl, Below.refl _ _⟩
  by_cases h2 : (m : Int) ≤ 1048576 - n
  case neg =>
    have q1 : ¬ ((1048576 : Int) - n < 0) := by omega
    go_enter Tryd.func10, Tryd.ntmps10
    go_wp2_with fail
    refine (szPointS_any a n c1 1048576 _ (by omega) (by omega) hn).mono ?_
    rintro e w1 ⟨rfl, rfl⟩
    rw [if_pos (by omega)]
    go_wp2_with fail
    refine (szPointS_any b m c2 (1048576 - n) _ (by omega) (by omega) hm).mono ?_
    rintro e w1 ⟨rfl, rfl⟩
    rw [if_neg (by omega)]
    go_wp2_with fail
    go_ret
    exact ⟨rfl, Below.refl _ _⟩
  have h3 : m ≤ 1048576 := by omega
  have q1 : ¬ ((1048576 : Int) - n < 0) := by omega
  have q2 : ¬ ((1048576 : Int) - n - m < 0) := by omega
  have he : eqTB (f0 X Y U V n m) (f1 X Y U V n m) (f2 X Y U V n m) (f0 X Y U V n m) (f1 X Y U V n m) (f2 X Y U V n m) = true := by simp [eqTB]
  go_enter Tryd.func10, Tryd.ntmps10
  go_wp2_with fail
  refine (szPointS_any a n c1 1048576 _ (by omega) (by omega) hn).mono ?_
  rintro e w1 ⟨rfl, rfl⟩
  rw [if_pos (by omega)]
  go_wp2_with fail
  refine (szPointS_any b m c2 (1048576 - n) _ (by omega) (by omega) hm).mono ?_
  rintro e w1 ⟨rfl, rfl⟩
  rw [if_pos h2]
  go_wp2_with fail
  refine (toPointS_any a n c1 X Y _ h1 HP.out).mono ?_
  rintro e w1 ⟨g1, ga1, gb1, rfl, bw1, P1⟩
  go_wp2_with fail
  refine (toPointS_any b m c2 U V _ h3 (HQ.out.ext bw1)).mono ?_
  rintro e w2 ⟨g2, ga2, gb2, rfl, bw2, Q2⟩
  have P2 := P1.ext bw2
  have B2 := Ext.trans bw1 bw2
  go_wp2_with fail
  refine (specFT_any (some ⟨g1, 0, none⟩) (some ⟨g2, 0, none⟩) n m n m X Y U V _ h1 h3 P2 Q2).mono ?_
  rintro e w3 ⟨rfl, bw3⟩
  have B3 := Ext.trans B2 bw3
  go_wp2_with fail
  have B3' : Below w.heap.size w (w3.alloc (.cells #[.int .i64 (f0 X Y U V n m), .int .i64 (f1 X Y U V n m), .int .i64 (f2 X Y U V n m)] 25)) := Ext.alloc B3 _
  refine (toPointS_any a n c1 X Y _ h1 (HP.out.ext B3')).mono ?_
  rintro e w4 ⟨g4, ga4, gb4, rfl, bw4, P4⟩
  have s4 := bw4.size
  simp only [World.size_alloc] at s4
  have x0 : w4.cell? ⟨w3.heap.size, 0, none⟩ = some (.int .i64 (f0 X Y U V n m)) := keepC bw4 (by simp)
  have x1 : w4.cell? ⟨w3.heap.size, 1, none⟩ = some (.int .i64 (f1 X Y U V n m)) := keepC bw4 (by simp)
  have x2 : w4.cell? ⟨w3.heap.size, 2, none⟩ = some (.int .i64 (f2 X Y U V n m)) := keepC bw4 (by simp)
  have B4 := Ext.trans B3' bw4
  clear bw1 bw2 bw3 bw4 P1 P2 Q2
  go_wp2_with fail
  refine (toPointS_any b m c2 U V _ h3 (HQ.out.ext B4)).mono ?_
  rintro e w5 ⟨g5, ga5, gb5, rfl, bw5, Q5⟩
  have P5 := P4.ext bw5
  have x0 := keepC bw5 x0
  have x1 := keepC bw5 x1
  have x2 := keepC bw5 x2
  have B5 := Ext.trans B4 bw5
  have hM5 : Mats w5 := hM.below B5 hM.size
  clear bw5
  go_wp2_with fail
  refine (implFT_any (some ⟨g4, 0, none⟩) (some ⟨g5, 0, none⟩) n m n m X Y U V _ hM5 h1 h3 P5 Q5).mono ?_
  rintro e w6 ⟨rfl, bw6⟩
  have P6 := P5.ext (Ext.alloc bw6 (.cells #[.int .i64 (f0 X Y U V n m), .int .i64 (f1 X Y U V n m), .int .i64 (f2 X Y U V n m)] 25))
  have Q6 := Q5.ext (Ext.alloc bw6 (.cells #[.int .i64 (f0 X Y U V n m), .int .i64 (f1 X Y U V n m), .int .i64 (f2 X Y U V n m)] 25))
  have x0 := keepC bw6 x0
  have x1 := keepC bw6 x1
  have x2 := keepC bw6 x2
  have l6 : w3.heap.size < w6.heap.size := World.block_lt_of_cell? w6 ⟨w3.heap.size, 0, none⟩ x0
  have B6 : Below w.heap.size w (w6.alloc (.cells #[.int .i64 (f0 X Y U V n m), .int .i64 (f1 X Y U V n m), .int .i64 (f2 X Y U V n m)] 25)) := Ext.alloc (Ext.trans B5 bw6) _
  clear bw6 P4 P5 Q5
  go_wp2_with fail
  refine (eqTransform_any _ _ _ _ _ _ _).mono ?_
  rintro e w7 ⟨rfl, bw7⟩
  have P7 := P6.ext bw7
  have Q7 := Q6.ext bw7
  have B7 := Ext.trans B6 bw7
  clear bw7 P6 Q6 x0 x1 x2
  rw [he]
  go_wp2_with fail
  refine (toPointS_any a n c1 X Y _ h1 (HP.out.ext B7)).mono ?_
  rintro e w8 ⟨g8, ga8, gb8, rfl, bw8, P8⟩
  have P7' := P7.ext bw8
  have Q8 := Q7.ext bw8
  have B8 := Ext.trans B7 bw8
  clear bw8 P7 Q7
  go_wp2_with fail
  refine (eqPointS_any (some ⟨g4, 0, none⟩) (some ⟨g8, 0, none⟩) n n n X Y _ h1 P7' P8).mono ?_
  rintro e w9 ⟨rfl, bw9⟩
  have Q9 := Q8.ext bw9
  have B9 := Ext.trans B8 bw9
  clear bw9 P7' P8 Q8
  go_wp2_with fail
  refine (toPointS_any b m c2 U V _ h3 (HQ.out.ext B9)).mono ?_
  rintro e w10 ⟨g10, ga10, gb10, rfl, bw10, Q10⟩
  have Q9' := Q9.ext bw10
  have B10 := Ext.trans B9 bw10
  clear bw10 Q9
  go_wp2_with fail
  refine (eqPointS_any (some ⟨g5, 0, none⟩) (some ⟨g10, 0, none⟩) m m m U V _ h3 Q9' Q10).mono ?_
  rintro e w11 ⟨rfl, bw11⟩
  have B11 := Ext.trans B10 bw11
  go_wp2_with fail
  go_ret
  exact ⟨rfl, B11⟩
end Go.Proofs.YtliaconoppnclaaDoor
