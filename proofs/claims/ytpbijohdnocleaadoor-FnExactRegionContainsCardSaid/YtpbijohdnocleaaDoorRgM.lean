/- The walks of FnExactIsRegion, FnExactRegionArea, FnExactRegionContains over a contract of the program's function. Condition: the rectangles' cells are in memory. -/
import Derived.Test.YtpbijohdnocleaaDoorRgI
import Derived.Test.YtpbijohdnocleaaDoorRgK
import Derived.Test.YtpbijohdnocleaaDoorRiC
namespace Go.Proofs.YtpbijohdnocleaaDoor
open Go.RowKit
set_option linter.unusedVariables false
set_option linter.unusedSimpArgs false

/-- The contract that the walk asks of the program's IsRegion. -/
def ImplIsRegion : Prop := ∀ (m : Option Addr) (n cap : Nat) (P Q R S : Nat → Int) (W : World), n ≤ 1048576 → n ≤ cap → EnvW W → RectsIs W.heap.size W m n P Q R S → Calls Tryd.prog 22 #[.slice m n cap] W fun e W' => e = .returned (.bool (okR P Q R S n)) ∧ Below W.heap.size W W'

set_option maxHeartbeats 8000000 in
theorem walkIsRegion (hI : ImplIsRegion) (a : Option Addr) (n c1 : Nat) (w : World) (hn : n ≤ maxLen) (hPe : ∃ P Q R S, RectsIs w.heap.size w a n P Q R S) (hDb : EnvW w) :
    Calls Tryd.prog 3 #[.slice a n c1] w fun e w' => e = .returned (.bool true) ∧ Below w.heap.size w w' := by
  obtain ⟨P, Q, R, S, hP⟩ := hPe
  have HP := Lib.hid hP
  have HI := Lib.hid hI
  have HD := Lib.hid hDb
  clear hP hI hDb
  by_cases h1 : n ≤ 1048576
  case neg =>
    go_enter Tryd.func3, Tryd.ntmps3
    go_wp2_with fail
    refine (szRectS_any a n c1 1048576 _ (by omega) (by omega) hn).mono ?_
    rintro e w1 ⟨rfl, rfl⟩
    rw [if_neg (by omega)]
    go_wp2_with fail
    go_ret
    exact ⟨rfl, Below.refl _ _⟩
  have q1 : ¬ ((1048576 : Int) - n < 0) := by omega
  obtain ⟨v, hv⟩ : ∃ v : Bool, v = (okR P Q R S n) := ⟨_, rfl⟩
  have HV := Lib.hid hv
  clear hv
  have hne : (v != v) = false := by simp
  have hne2 : (!(v == v)) = false := by simp
  go_enter Tryd.func3, Tryd.ntmps3
  go_wp2_with fail
  refine (szRectS_any a n c1 1048576 _ (by omega) (by omega) hn).mono ?_
  rintro e w1 ⟨rfl, rfl⟩
  rw [if_pos (by omega)]
  go_wp2_with fail
  refine (toRectS_any a n c1 P Q R S _ h1 HP.out).mono ?_
  rintro e w1 ⟨g1, ga1, gb1, rfl, bw1, P1⟩
  go_wp2_with fail
  refine (specIsRegion_any (some ⟨g1, 0, none⟩) n n P Q R S _ h1 P1).mono ?_
  rintro e w3 ⟨rfl, bw3⟩
  rw [← HV.out]
  have B3 := Ext.trans bw1 bw3
  go_wp2_with fail
  refine (toRectS_any a n c1 P Q R S _ h1 (HP.out.ext B3)).mono ?_
  rintro e w4 ⟨g4, ga4, gb4, rfl, bw4, P4⟩
  have B4 := Ext.trans B3 bw4
  clear bw1 bw3 bw4 P1
  go_wp2_with fail
  refine (HI.out (some ⟨g4, 0, none⟩) n n P Q R S _ h1 (Nat.le_refl _) (HD.out.ext B4) P4).mono ?_
  rintro e w6 ⟨rfl, bw6⟩
  rw [← HV.out]
  have P6 := P4.ext bw6
  have B6 := Ext.trans B4 bw6
  clear bw6 P4
  go_wp2_with fail
  refine (toRectS_any a n c1 P Q R S _ h1 (HP.out.ext B6)).mono ?_
  rintro e w8 ⟨g8, ga8, gb8, rfl, bw8, P8⟩
  have P7 := P6.ext bw8
  have B8 := Ext.trans B6 bw8
  clear bw8 P6
  go_wp2_with fail
  refine (eqRectS_any (some ⟨g4, 0, none⟩) (some ⟨g8, 0, none⟩) n n n P Q R S _ h1 P7 P8).mono ?_
  rintro e w9 ⟨rfl, bw9⟩
  have B9 := Ext.trans B8 bw9
  go_wp2_with fail
  go_ret
  exact ⟨rfl, B9⟩

/-- The contract that the walk asks of the program's RegionArea. -/
def ImplRegionArea : Prop := ∀ (m : Option Addr) (n cap : Nat) (P Q R S : Nat → Int) (W : World), n ≤ 1048576 → n ≤ cap → EnvW W → RectsIs W.heap.size W m n P Q R S → Calls Tryd.prog 29 #[.slice m n cap] W fun e W' => e = .returned (.int .i64 (areaR P Q R S n)) ∧ Below W.heap.size W W'

set_option maxHeartbeats 8000000 in
theorem walkRegionArea (hI : ImplRegionArea) (a : Option Addr) (n c1 : Nat) (w : World) (hn : n ≤ maxLen) (hPe : ∃ P Q R S, RectsIs w.heap.size w a n P Q R S) (hDb : EnvW w) :
    Calls Tryd.prog 5 #[.slice a n c1] w fun e w' => e = .returned (.bool true) ∧ Below w.heap.size w w' := by
  obtain ⟨P, Q, R, S, hP⟩ := hPe
  have HP := Lib.hid hP
  have HI := Lib.hid hI
  have HD := Lib.hid hDb
  clear hP hI hDb
  by_cases h1 : n ≤ 1048576
  case neg =>
    go_enter Tryd.func5, Tryd.ntmps5
    go_wp2_with fail
    refine (szRectS_any a n c1 1048576 _ (by omega) (by omega) hn).mono ?_
    rintro e w1 ⟨rfl, rfl⟩
    rw [if_neg (by omega)]
    go_wp2_with fail
    go_ret
    exact ⟨rfl, Below.refl _ _⟩
  have q1 : ¬ ((1048576 : Int) - n < 0) := by omega
  obtain ⟨v, hv⟩ : ∃ v : Int, v = (areaR P Q R S n) := ⟨_, rfl⟩
  have HV := Lib.hid hv
  clear hv
  have hne : (v != v) = false := by simp
  have hne2 : (!(v == v)) = false := by simp
  go_enter Tryd.func5, Tryd.ntmps5
  go_wp2_with fail
  refine (szRectS_any a n c1 1048576 _ (by omega) (by omega) hn).mono ?_
  rintro e w1 ⟨rfl, rfl⟩
  rw [if_pos (by omega)]
  go_wp2_with fail
  refine (toRectS_any a n c1 P Q R S _ h1 HP.out).mono ?_
  rintro e w1 ⟨g1, ga1, gb1, rfl, bw1, P1⟩
  go_wp2_with fail
  refine (specRegionArea_any (some ⟨g1, 0, none⟩) n n P Q R S _ h1 P1).mono ?_
  rintro e w3 ⟨rfl, bw3⟩
  rw [← HV.out]
  have B3 := Ext.trans bw1 bw3
  go_wp2_with fail
  refine (toRectS_any a n c1 P Q R S _ h1 (HP.out.ext B3)).mono ?_
  rintro e w4 ⟨g4, ga4, gb4, rfl, bw4, P4⟩
  have B4 := Ext.trans B3 bw4
  clear bw1 bw3 bw4 P1
  go_wp2_with fail
  refine (HI.out (some ⟨g4, 0, none⟩) n n P Q R S _ h1 (Nat.le_refl _) (HD.out.ext B4) P4).mono ?_
  rintro e w6 ⟨rfl, bw6⟩
  rw [← HV.out]
  have P6 := P4.ext bw6
  have B6 := Ext.trans B4 bw6
  clear bw6 P4
  go_wp2_with fail
  refine (toRectS_any a n c1 P Q R S _ h1 (HP.out.ext B6)).mono ?_
  rintro e w8 ⟨g8, ga8, gb8, rfl, bw8, P8⟩
  have P7 := P6.ext bw8
  have B8 := Ext.trans B6 bw8
  clear bw8 P6
  go_wp2_with fail
  refine (eqRectS_any (some ⟨g4, 0, none⟩) (some ⟨g8, 0, none⟩) n n n P Q R S _ h1 P7 P8).mono ?_
  rintro e w9 ⟨rfl, bw9⟩
  have B9 := Ext.trans B8 bw9
  go_wp2_with fail
  go_ret
  exact ⟨rfl, B9⟩

/-- The contract that the walk asks of the program's RegionContains. -/
def ImplRegionContains : Prop := ∀ (m : Option Addr) (n cap : Nat) (P Q R S : Nat → Int) (x y : Int) (W : World), n ≤ 1048576 → n ≤ cap → EnvW W → RectsIs W.heap.size W m n P Q R S → Calls Tryd.prog 31 #[.slice m n cap, .int .i64 x, .int .i64 y] W fun e W' => e = .returned (.bool (okR P Q R S n && hasB (covF P Q R S n) x y)) ∧ Below W.heap.size W W'

set_option maxHeartbeats 8000000 in
theorem walkRegionContains (hI : ImplRegionContains) (a : Option Addr) (n c1 : Nat) (x y : Int) (w : World) (hn : n ≤ maxLen) (hPe : ∃ P Q R S, RectsIs w.heap.size w a n P Q R S) (hDb : EnvW w) :
    Calls Tryd.prog 6 #[.slice a n c1, .int .i64 x, .int .i64 y] w fun e w' => e = .returned (.bool true) ∧ Below w.heap.size w w' := by
  obtain ⟨P, Q, R, S, hP⟩ := hPe
  have HP := Lib.hid hP
  have HI := Lib.hid hI
  have HD := Lib.hid hDb
  clear hP hI hDb
  by_cases h1 : n ≤ 1048576
  case neg =>
    go_enter Tryd.func6, Tryd.ntmps6
    go_wp2_with fail
    refine (szRectS_any a n c1 1048576 _ (by omega) (by omega) hn).mono ?_
    rintro e w1 ⟨rfl, rfl⟩
    rw [if_neg (by omega)]
    go_wp2_with fail
    go_ret
    exact ⟨rfl, Below.refl _ _⟩
  have q1 : ¬ ((1048576 : Int) - n < 0) := by omega
  obtain ⟨v, hv⟩ : ∃ v : Bool, v = (okR P Q R S n && hasB (covF P Q R S n) x y) := ⟨_, rfl⟩
  have HV := Lib.hid hv
  clear hv
  have hne : (v != v) = false := by simp
  have hne2 : (!(v == v)) = false := by simp
  go_enter Tryd.func6, Tryd.ntmps6
  go_wp2_with fail
  refine (szRectS_any a n c1 1048576 _ (by omega) (by omega) hn).mono ?_
  rintro e w1 ⟨rfl, rfl⟩
  rw [if_pos (by omega)]
  go_wp2_with fail
  refine (toRectS_any a n c1 P Q R S _ h1 HP.out).mono ?_
  rintro e w1 ⟨g1, ga1, gb1, rfl, bw1, P1⟩
  go_wp2_with fail
  refine (specRegionContains_any (some ⟨g1, 0, none⟩) n n P Q R S _ h1 P1 x y).mono ?_
  rintro e w3 ⟨rfl, bw3⟩
  rw [← HV.out]
  have B3 := Ext.trans bw1 bw3
  go_wp2_with fail
  refine (toRectS_any a n c1 P Q R S _ h1 (HP.out.ext B3)).mono ?_
  rintro e w4 ⟨g4, ga4, gb4, rfl, bw4, P4⟩
  have B4 := Ext.trans B3 bw4
  clear bw1 bw3 bw4 P1
  go_wp2_with fail
  refine (HI.out (some ⟨g4, 0, none⟩) n n P Q R S x y _ h1 (Nat.le_refl _) (HD.out.ext B4) P4).mono ?_
  rintro e w6 ⟨rfl, bw6⟩
  rw [← HV.out]
  have P6 := P4.ext bw6
  have B6 := Ext.trans B4 bw6
  clear bw6 P4
  go_wp2_with fail
  refine (toRectS_any a n c1 P Q R S _ h1 (HP.out.ext B6)).mono ?_
  rintro e w8 ⟨g8, ga8, gb8, rfl, bw8, P8⟩
  have P7 := P6.ext bw8
  have B8 := Ext.trans B6 bw8
  clear bw8 P6
  go_wp2_with fail
  refine (eqRectS_any (some ⟨g4, 0, none⟩) (some ⟨g8, 0, none⟩) n n n P Q R S _ h1 P7 P8).mono ?_
  rintro e w9 ⟨rfl, bw9⟩
  have B9 := Ext.trans B8 bw9
  go_wp2_with fail
  go_ret
  exact ⟨rfl, B9⟩

end Go.Proofs.YtpbijohdnocleaaDoor
