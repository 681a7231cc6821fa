/- FnExactSignedArea answers true. Condition: the points' cells are in memory. -/
import Derived.Test.YtfbalpkjcfdakaaPgF
namespace Go.Proofs.Ytfbalpkjcfdakaa
open Go.RowKit
set_option linter.unusedVariables false
set_option linter.unusedSimpArgs false

set_option maxHeartbeats 8000000 in
theorem walkSA (a : Option Addr) (n c1 : Nat) (w : World) (hn : n ≤ maxLen) (hPe : ∃ X Y, PtsIs w.heap.size w a n X Y) :
    Calls Try.prog 4 #[.slice a n c1] w fun e w' => e = .returned (.bool true) ∧ Below w.heap.size w w' := by
  obtain ⟨X, Y, hP⟩ := hPe
  have HP := Lib.hid hP
  clear hP
  by_cases h1 : n ≤ 1048576
  case neg =>
    go_enter Try.func4, Try.ntmps4
    go_wp2_with fail
    refine (szPointS_any a n c1 1048576 _ (by omega) (by omega) hn).mono ?_
    rintro e w1 ⟨rfl, rfl⟩
    rw [if_neg (by omega)]
    go_wp2_with fail
    go_ret
    exact ⟨rfl, Below.refl _ _⟩
  have q1 : ¬ ((1048576 : Int) - n < 0) := by omega
  have hS := fun b w' (h : PtsIs w'.heap.size w' b n X Y) => specSignedArea_any b n n X Y w' h1 h
  have hI := fun b w' (h : PtsIs w'.heap.size w' b n X Y) => implSignedArea_any b n n X Y w' h1 h
  obtain ⟨r, hr⟩ : ∃ r, r = saV X Y n := ⟨_, rfl⟩
  rw [← hr] at hS hI
  clear hr
  go_enter Try.func4, Try.ntmps4
  go_wp2_with fail
  refine (szPointS_any a n c1 1048576 _ (by omega) (by omega) hn).mono ?_
  rintro e w1 ⟨rfl, rfl⟩
  rw [if_pos (by omega)]
  go_wp2_with fail
  refine (toPointS_any a n c1 X Y _ h1 HP.out).mono ?_
  rintro e w1 ⟨g1, ga1, gb1, rfl, bw1, P1⟩
  go_wp2_with fail
  refine (hS _ _ P1).mono ?_
  rintro e w2 ⟨rfl, bw2⟩
  have B2 := Ext.trans bw1 bw2
  clear bw1 bw2 P1
  go_wp2_with fail
  refine (toPointS_any a n c1 X Y _ h1 (HP.out.ext B2)).mono ?_
  rintro e w3 ⟨g3, ga3, gb3, rfl, bw3, P3⟩
  have B3 := Ext.trans B2 bw3
  clear bw3
  go_wp2_with fail
  refine (hI _ _ P3).mono ?_
  rintro e w4 ⟨rfl, bw4⟩
  have B4 := Ext.trans B3 bw4
  have P4 := P3.ext bw4
  clear bw4 P3
  go_wp2_with fail
  refine (toPointS_any a n c1 X Y _ h1 (HP.out.ext B4)).mono ?_
  rintro e w5 ⟨g5, ga5, gb5, rfl, bw5, P5⟩
  have P6 := P4.ext bw5
  have B5 := Ext.trans B4 bw5
  clear bw5
  go_wp2_with fail
  refine (eqPointS_any (some ⟨g3, 0, none⟩) (some ⟨g5, 0, none⟩) n n n X Y _ h1 P6 P5).mono ?_
  rintro e w6 ⟨rfl, bw6⟩
  have B6 := Ext.trans B5 bw6
  go_wp2_with fail
  go_ret
  exact ⟨rfl, B6⟩
end Go.Proofs.Ytfbalpkjcfdakaa
