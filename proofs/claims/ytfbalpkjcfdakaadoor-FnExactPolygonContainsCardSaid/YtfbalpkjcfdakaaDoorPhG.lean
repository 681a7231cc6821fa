/- The program's PolygonContains; FnExactPolygonContains answers true. Conditions: the points' cells are in memory; the variables that regions read hold their tables. -/
import Derived.Test.YtfbalpkjcfdakaaDoorPhF
import Derived.Test.YtfbalpkjcfdakaaDoorRiS
import Derived.Test.YtfbalpkjcfdakaaDoorQI
namespace Go.Proofs.YtfbalpkjcfdakaaDoor
open Go.RowKit
set_option linter.unusedVariables false
set_option linter.unusedSimpArgs false
attribute [local go_sem ↓] Go.wp_at_zero Go.wp_at_succ

theorem prL_has (X Y : Nat → Int) (n : Nat) (x y : Int) : (okR (pA (prL X Y n)) (pB (prL X Y n)) (pC (prL X Y n)) (pD (prL X Y n)) (prL X Y n).length && hasB (covF (pA (prL X Y n)) (pB (prL X Y n)) (pC (prL X Y n)) (pD (prL X Y n)) (prL X Y n).length) x y) = (polyB X Y n && hasB (sdF X Y n) x y) := by
  cases hp : polyB X Y n with
  | false =>
    rw [show prL X Y n = [] by unfold prL; rw [if_neg (by simp [hp])], Bool.false_and]
    have : ∀ f, (∀ k, f k = false) → hasB f x y = false := fun f h => by unfold hasB; rw [h, Bool.and_false]
    rw [this (covF (pA []) (pB []) (pC []) (pD []) ([] : List R4).length) fun k => covF_zero _ _ _ _ k, Bool.and_false]
  | true =>
    rw [show prL X Y n = canonL (sdF X Y n) by unfold prL; rw [if_pos hp], okR_canonL, Bool.true_and, Bool.true_and]
    by_cases h : (-40 ≤ x ∧ x ≤ 39) ∧ (-40 ≤ y ∧ y ≤ 39)
    · rw [hasB_in h, hasB_in h, cov_canonL _ _ _ h]
    · rw [hasB_out h, hasB_out h]
set_option maxHeartbeats 4000000 in
theorem implPolygonContains_any (a : Option Addr) (n cap : Nat) (x y : Int) (X Y : Nat → Int) (w : World) (hn : n ≤ 1048576) (hD : EnvW w) (hP : PtsIs w.heap.size w a n X Y) :
    Calls Tryd.prog 19 #[.slice a n cap, .int .i64 x, .int .i64 y] w fun e w' => e = .returned (.bool (polyB X Y n && hasB (sdF X Y n) x y)) ∧ Below w.heap.size w w' := by
  rw [← prL_has]
  have hlen := prL_len X Y n
  have hI := fun w' hD' hP' => implPolygonRegion_any a n cap X Y w' hn hD' hP'
  have hC := fun (a : Option Addr) c w' (hc : (prL X Y n).length ≤ c) hD' hR' => implRegionContains a (prL X Y n).length c (pA (prL X Y n)) (pB (prL X Y n)) (pC (prL X Y n)) (pD (prL X Y n)) x y w' (by omega) hc hD' hR'
  generalize (okR (pA (prL X Y n)) (pB (prL X Y n)) (pC (prL X Y n)) (pD (prL X Y n)) (prL X Y n).length && hasB (covF (pA (prL X Y n)) (pB (prL X Y n)) (pC (prL X Y n)) (pD (prL X Y n)) (prL X Y n).length) x y) = r at hC ⊢
  generalize prL X Y n = l at hlen hI hC
  generalize polyB X Y n = p at hI
  go_enter Tryd.func19, Tryd.ntmps19
  go_wp2_with (first | (go_at_call 21; refine (hI _ (hD.ext (by (repeat (first | (with_reducible exact Below.refl _ _) | (with_reducible refine Ext.drewN ?_ _) | (with_reducible refine Below.drew ?_) | (with_reducible refine Ext.alloc ?_ _) | (with_reducible refine Ext.setCell ?_ (by simp; try omega) _) | (with_reducible refine Ext.trans ?_ (by assumption)) | (with_reducible assumption) | exact Below.refl _ _)))) (hP.ext (by (repeat (first | (with_reducible exact Below.refl _ _) | (with_reducible refine Ext.drewN ?_ _) | (with_reducible refine Below.drew ?_) | (with_reducible refine Ext.alloc ?_ _) | (with_reducible refine Ext.setCell ?_ (by simp; try omega) _) | (with_reducible refine Ext.trans ?_ (by assumption)) | (with_reducible assumption) | exact Below.refl _ _))))).mono ?_; rintro e w1 ⟨⟨a1, c1, rfl, hc1, O1⟩, bw1⟩) | (go_at_call 63; refine (hC a1 c1 _ hc1 (hD.ext (by (repeat (first | (with_reducible exact Below.refl _ _) | (with_reducible refine Ext.drewN ?_ _) | (with_reducible refine Below.drew ?_) | (with_reducible refine Ext.alloc ?_ _) | (with_reducible refine Ext.setCell ?_ (by simp; try omega) _) | (with_reducible refine Ext.trans ?_ (by assumption)) | (with_reducible assumption) | exact Below.refl _ _)))) O1.rects).mono ?_; rintro e w2 ⟨rfl, bw2⟩))
  go_ret
  exact ⟨rfl, by (repeat (first | (with_reducible exact Below.refl _ _) | (with_reducible refine Ext.drewN ?_ _) | (with_reducible refine Below.drew ?_) | (with_reducible refine Ext.alloc ?_ _) | (with_reducible refine Ext.setCell ?_ (by simp; try omega) _) | (with_reducible refine Ext.trans ?_ (by assumption)) | (with_reducible assumption) | exact Below.refl _ _))⟩

set_option maxHeartbeats 8000000 in
theorem walkPC (a : Option Addr) (n c1 : Nat) (x y : Int) (w : World) (hn : n ≤ maxLen) (hPe : ∃ X Y, PtsIs w.heap.size w a n X Y) (hDb : EnvW w) :
    Calls Tryd.prog 4 #[.slice a n c1, .int .i64 x, .int .i64 y] w fun e w' => e = .returned (.bool true) ∧ Below w.heap.size w w' := by
  obtain ⟨X, Y, hP⟩ := hPe
  have HP := Lib.hid hP
  have HD := Lib.hid hDb
  clear hP hDb
  by_cases h1 : n ≤ 1048576
  case neg =>
    go_enter Tryd.func4, Tryd.ntmps4
    go_wp2_with fail
    refine (szPointS_any a n c1 1048576 _ (by omega) (by omega) hn).mono ?_
    rintro e w1 ⟨rfl, rfl⟩
    rw [if_neg (by omega)]
    go_wp2_with fail
    go_ret
    exact ⟨rfl, Below.refl _ _⟩
  have q1 : ¬ ((1048576 : Int) - n < 0) := by omega
  have hS := fun b w' (h : PtsIs w'.heap.size w' b n X Y) => specPolygonContains_any b n n x y X Y w' h1 h
  have hI := fun b w' hD' (h : PtsIs w'.heap.size w' b n X Y) => implPolygonContains_any b n n x y X Y w' h1 hD' h
  obtain ⟨r, hr⟩ : ∃ r, r = (polyB X Y n && hasB (sdF X Y n) x y) := ⟨_, rfl⟩
  rw [← hr] at hS hI
  clear hr
  go_enter Tryd.func4, Tryd.ntmps4
  go_wp2_with fail
  refine (szPointS_any a n c1 1048576 _ (by omega) (by omega) hn).mono ?_
  rintro e w1 ⟨rfl, rfl⟩
  rw [if_pos (by omega)]
  go_wp2_with fail
  refine (toPointS_any a n c1 X Y _ h1 HP.out).mono ?_
  rintro e w1 ⟨g1, ga1, gb1, rfl, bw1, P1⟩
  go_wp2_with fail
  refine (hS _ _ P1).mono ?_
  rintro e w2 ⟨rfl, bw2⟩
  have B2 := Ext.trans bw1 bw2
  clear bw1 bw2 P1
  go_wp2_with fail
  refine (toPointS_any a n c1 X Y _ h1 (HP.out.ext B2)).mono ?_
  rintro e w3 ⟨g3, ga3, gb3, rfl, bw3, P3⟩
  have B3 := Ext.trans B2 bw3
  clear bw3
  go_wp2_with fail
  refine (hI _ _ (HD.out.ext B3) P3).mono ?_
  rintro e w4 ⟨rfl, bw4⟩
  have B4 := Ext.trans B3 bw4
  have P4 := P3.ext bw4
  clear bw4 P3
  cases r
  all_goals
    go_wp2_with fail
    refine (toPointS_any a n c1 X Y _ h1 (HP.out.ext B4)).mono ?_
    rintro e w5 ⟨g5, ga5, gb5, rfl, bw5, P5⟩
    have P6 := P4.ext bw5
    have B5 := Ext.trans B4 bw5
    clear bw5
    go_wp2_with fail
    refine (eqPointS_any (some ⟨g3, 0, none⟩) (some ⟨g5, 0, none⟩) n n n X Y _ h1 P6 P5).mono ?_
    rintro e w6 ⟨rfl, bw6⟩
    have B6 := Ext.trans B5 bw6
    go_wp2_with fail
    go_ret
    exact ⟨rfl, B6⟩
end Go.Proofs.YtfbalpkjcfdakaaDoor
