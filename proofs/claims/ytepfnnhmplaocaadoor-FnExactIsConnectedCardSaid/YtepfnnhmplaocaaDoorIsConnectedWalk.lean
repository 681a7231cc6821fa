/- FnExactIsConnected answers true. Conditions: the rectangles' cells are in memory; the variables that regions read hold their tables. -/
import Derived.Test.YtepfnnhmplaocaaDoorCpQ
import Derived.Test.YtepfnnhmplaocaaDoorQA
import Derived.Test.YtepfnnhmplaocaaDoorQI
namespace Go.Proofs.YtepfnnhmplaocaaDoor
open Go.RowKit
set_option linter.unusedVariables false
set_option linter.unusedSimpArgs false

set_option maxHeartbeats 16000000 in
set_option maxRecDepth 100000 in
theorem walkIsConnected (a0 : Option Addr) (n0 c0 : Nat) (w : World) (hn0 : n0 ≤ maxLen) (hPe0 : ∃ P Q R S, RectsIs w.heap.size w a0 n0 P Q R S) (hDb : EnvW w) :
    Calls Tryd.prog 10 #[.slice a0 n0 c0] w fun e w' => e = .returned (.bool true) ∧ Below w.heap.size w w' := by
  obtain ⟨P0, Q0, R0, S0, hP0⟩ := hPe0
  have HP0 := Lib.hid hP0
  have HD := Lib.hid hDb
  clear hP0 hDb
  by_cases h0 : (n0 : Int) ≤ 1048576
  case neg =>
    go_enter Tryd.func10, Tryd.ntmps10
    go_wp2_with fail
    refine (szRectS_any a0 n0 c0 (1048576) _ (by omega) (by omega) hn0).mono ?_
    rintro e w1 ⟨rfl, rfl⟩
    rw [if_neg (by omega)]
    go_wp2_with fail
    go_ret
    exact ⟨rfl, Below.refl _ _⟩
  have q0 : ¬ (1048576 - (n0 : Int) < 0) := by omega
  have k0 : n0 ≤ 1048576 := by omega
  obtain ⟨b, hb⟩ : ∃ b, b = (ccV P0 Q0 R0 S0 n0 == 1) := ⟨_, rfl⟩
  have HB := Lib.hid hb
  clear hb
  have hne : (!(b == b)) = false := by simp
  have hne' : (b != b) = false := by simp
  go_enter Tryd.func10, Tryd.ntmps10
  go_wp2_with fail
  refine (szRectS_any a0 n0 c0 (1048576) _ (by omega) (by omega) hn0).mono ?_
  rintro e w1 ⟨rfl, rfl⟩
  rw [if_pos h0]
  go_wp2_with fail
  refine (toRectS_any a0 n0 c0 P0 Q0 R0 S0 _ k0 HP0.out).mono ?_
  rintro e u0 ⟨g10, ga10, gb10, rfl, bu0, T0⟩
  have T0 := Lib.hid T0
  have BU0 := bu0
  go_wp2_with fail
  refine (specIsConnected_any (some ⟨g10, 0, none⟩) n0 n0 P0 Q0 R0 S0 _ k0 T0.out).mono ?_
  rintro e w2 ⟨rfl, bw2⟩
  rw [← HB.out]
  have B2 := Ext.trans BU0 bw2
  clear T0 bu0 BU0 ga10 gb10 bw2
  go_wp2_with fail
  refine (toRectS_row a0 n0 c0 P0 Q0 R0 S0 _ k0 (HP0.out.ext B2)).mono ?_
  rintro e v0 ⟨g0, ga0, gb0, rfl, bv0, X0⟩
  have X0 := Lib.hid X0
  have BV0 := Ext.trans B2 bv0
  have lv0 := bv0.size
  have B3 := BV0
  clear bv0
  go_wp2_with fail
  refine (implIsConnected_any (some ⟨g0, 0, none⟩) n0 n0 P0 Q0 R0 S0 _ k0 (Nat.le_refl _) (HD.out.ext B3) X0.out.rects).mono ?_
  rintro e w4 ⟨rfl, bw4⟩
  rw [← HB.out]
  have X0 := Lib.hid (X0.out.below bw4 gb0)
  have Bc := Ext.trans B3 bw4
  have l4 := bw4.size
  have gc0 := Nat.lt_of_lt_of_le gb0 l4
  clear bw4
  go_wp2_with fail
  refine (toRectS_any a0 n0 c0 P0 Q0 R0 S0 _ k0 (HP0.out.ext Bc)).mono ?_
  rintro e x0 ⟨g60, ga60, gb60, rfl, bx0, T0⟩
  have T0 := Lib.hid T0
  have X0 := Lib.hid (X0.out.below bx0 gc0)
  have Bc := Ext.trans Bc bx0
  have lsx0 := bx0.size
  have gc0 := Nat.lt_of_lt_of_le gc0 lsx0
  clear bx0
  go_wp2_with fail
  refine (eqRectS_any (some ⟨g0, 0, none⟩) (some ⟨g60, 0, none⟩) n0 n0 n0 P0 Q0 R0 S0 _ k0 X0.out.rects T0.out).mono ?_
  rintro e y0 ⟨rfl, by0⟩
  clear T0
  have X0 := Lib.hid (X0.out.below by0 gc0)
  have Bc := Ext.trans Bc by0
  have lsy0 := by0.size
  have gc0 := Nat.lt_of_lt_of_le gc0 lsy0
  clear by0
  go_wp2_with fail
  go_ret
  exact ⟨rfl, Bc⟩
end Go.Proofs.YtepfnnhmplaocaaDoor
