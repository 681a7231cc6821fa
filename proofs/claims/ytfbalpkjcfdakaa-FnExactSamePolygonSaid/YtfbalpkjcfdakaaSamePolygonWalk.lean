/- FnExactSamePolygon answers true. Condition: the points' cells are in memory. -/
import Derived.Test.YtfbalpkjcfdakaaSmC
namespace Go.Proofs.Ytfbalpkjcfdakaa
open Go.RowKit
set_option linter.unusedVariables false
set_option linter.unusedSimpArgs false

set_option maxHeartbeats 8000000 in
theorem walkSP (a : Option Addr) (n c1 : Nat) (b : Option Addr) (m c2 : Nat) (w : World) (hn : n ≤ maxLen) (hPe : ∃ X Y, PtsIs w.heap.size w a n X Y) (hm : m ≤ maxLen) (hQe : ∃ U V, PtsIs w.heap.size w b m U V) :
    Calls Try.prog 5 #[.slice a n c1, .slice b m c2] w fun e w' => e = .returned (.bool true) ∧ Below w.heap.size w w' := by
  obtain ⟨X, Y, hP⟩ := hPe
  obtain ⟨U, V, hQ⟩ := hQe
  have HP := Lib.hid hP
  have HQ := Lib.hid hQ
  clear hP hQ
  by_cases h1 : n ≤ 1048576
  case neg =>
    go_enter Try.func5, Try.ntmps5
    go_wp2_with fail
    refine (szPointS_any a n c1 1048576 _ (by omega) (by omega) hn).mono ?_
    rintro e w1 ⟨rfl, rfl⟩
    rw [if_neg (by omega)]
    go_wp2_with fail
    go_ret
    exact ⟨rfl, Below.refl _ _⟩
  by_cases h2 : (m : Int) ≤ 1048576 - n
  case neg =>
    have q1 : ¬ ((1048576 : Int) - n < 0) := by omega
    go_enter Try.func5, Try.ntmps5
    go_wp2_with fail
    refine (szPointS_any a n c1 1048576 _ (by omega) (by omega) hn).mono ?_
    rintro e w1 ⟨rfl, rfl⟩
    rw [if_pos (by omega)]
    go_wp2_with fail
    refine (szPointS_any b m c2 (1048576 - n) _ (by omega) (by omega) hm).mono ?_
    rintro e w1 ⟨rfl, rfl⟩
    rw [if_neg (by omega)]
    go_wp2_with fail
    go_ret
    exact ⟨rfl, Below.refl _ _⟩
  have h3 : m ≤ 1048576 := by omega
  have q1 : ¬ ((1048576 : Int) - n < 0) := by omega
  have q2 : ¬ ((1048576 : Int) - n - m < 0) := by omega
  have hS := fun a' b' w' (h : PtsIs w'.heap.size w' a' n X Y) (k : PtsIs w'.heap.size w' b' m U V) => specSamePolygon_any a' b' n m n m X Y U V w' h1 h3 h k
  have hI := fun a' b' w' (h : PtsIs w'.heap.size w' a' n X Y) (k : PtsIs w'.heap.size w' b' m U V) => implSamePolygon_any a' b' n m n m X Y U V w' h1 h3 h k
  obtain ⟨r, hr⟩ : ∃ r, r = sameB X Y U V n m := ⟨_, rfl⟩
  rw [← hr] at hS hI
  clear hr
  go_enter Try.func5, Try.ntmps5
  go_wp2_with fail
  refine (szPointS_any a n c1 1048576 _ (by omega) (by omega) hn).mono ?_
  rintro e w1 ⟨rfl, rfl⟩
  rw [if_pos (by omega)]
  go_wp2_with fail
  refine (szPointS_any b m c2 (1048576 - n) _ (by omega) (by omega) hm).mono ?_
  rintro e w1 ⟨rfl, rfl⟩
  rw [if_pos h2]
  go_wp2_with fail
  refine (toPointS_any a n c1 X Y _ h1 HP.out).mono ?_
  rintro e w1 ⟨g1, ga1, gb1, rfl, bw1, P1⟩
  go_wp2_with fail
  refine (toPointS_any b m c2 U V _ h3 (HQ.out.ext bw1)).mono ?_
  rintro e w2 ⟨g2, ga2, gb2, rfl, bw2, Q2⟩
  have P2 := P1.ext bw2
  have B2 := Ext.trans bw1 bw2
  go_wp2_with fail
  refine (hS _ _ _ P2 Q2).mono ?_
  rintro e w3 ⟨rfl, bw3⟩
  have B3 := Ext.trans B2 bw3
  clear bw1 bw2 bw3 P1 P2 Q2
  go_wp2_with fail
  refine (toPointS_any a n c1 X Y _ h1 (HP.out.ext B3)).mono ?_
  rintro e w4 ⟨g4, ga4, gb4, rfl, bw4, P4⟩
  have B4 := Ext.trans B3 bw4
  clear bw4
  go_wp2_with fail
  refine (toPointS_any b m c2 U V _ h3 (HQ.out.ext B4)).mono ?_
  rintro e w5 ⟨g5, ga5, gb5, rfl, bw5, Q5⟩
  have P5 := P4.ext bw5
  have B5 := Ext.trans B4 bw5
  clear bw5 P4
  go_wp2_with fail
  refine (hI _ _ _ P5 Q5).mono ?_
  rintro e w6 ⟨rfl, bw6⟩
  have P6 := P5.ext bw6
  have Q6 := Q5.ext bw6
  have B6 := Ext.trans B5 bw6
  clear bw6 P5 Q5
  cases r
  all_goals
    go_wp2_with fail
    refine (toPointS_any a n c1 X Y _ h1 (HP.out.ext B6)).mono ?_
    rintro e w8 ⟨g8, ga8, gb8, rfl, bw8, P8⟩
    have P7 := P6.ext bw8
    have Q8 := Q6.ext bw8
    have B8 := Ext.trans B6 bw8
    clear bw8
    go_wp2_with fail
    refine (eqPointS_any (some ⟨g4, 0, none⟩) (some ⟨g8, 0, none⟩) n n n X Y _ h1 P7 P8).mono ?_
    rintro e w9 ⟨rfl, bw9⟩
    have Q9 := Q8.ext bw9
    have B9 := Ext.trans B8 bw9
    clear bw9 P7 P8 Q8
    go_wp2_with fail
    refine (toPointS_any b m c2 U V _ h3 (HQ.out.ext B9)).mono ?_
    rintro e w10 ⟨g10, ga10, gb10, rfl, bw10, Q10⟩
    have Q9' := Q9.ext bw10
    have B10 := Ext.trans B9 bw10
    clear bw10 Q9
    go_wp2_with fail
    refine (eqPointS_any (some ⟨g5, 0, none⟩) (some ⟨g10, 0, none⟩) m m m U V _ h3 Q9' Q10).mono ?_
    rintro e w11 ⟨rfl, bw11⟩
    have B11 := Ext.trans B10 bw11
    go_wp2_with fail
    go_ret
    exact ⟨rfl, B11⟩
end Go.Proofs.Ytfbalpkjcfdakaa
