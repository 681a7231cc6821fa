/- The model's IsValidPolygon. Condition: the points' cells are in memory. -/
import Derived.Test.YtfbalpkjcfdakaaDoorPgA
import Derived.Test.YtfbalpkjcfdakaaDoorTrU
namespace Go.Proofs.YtfbalpkjcfdakaaDoor
open Go.RowKit
set_option linter.unusedVariables false
set_option linter.unusedSimpArgs false
attribute [local go_sem ↓] Go.wp_at_zero Go.wp_at_succ

theorem tmod_nat (a b : Nat) : ((a : Int)).tmod (b : Int) = ((a % b : Nat) : Int) := by
  rw [Int.tmod_eq_emod_of_nonneg (by omega)]; omega
theorem tmod_add {i n j : Nat} (k : Nat) (h : j = (i + k) % n) : ((i : Int) + (k : Int)).tmod (n : Int) = (j : Int) := by
  have := tmod_nat (i + k) n
  rw [h, ← this]; congr 1
/-- Point i of the slice. -/
theorem PtsIs.at {B : Nat} {w : World} {a : Option Addr} {n : Nat} {X Y : Nat → Int} (h : PtsIs B w a n X Y) {b off : Nat} (ha : a = some ⟨b, off, none⟩) {i : Nat} (hi : i < n) : b < B ∧ w.cell? ⟨b, off + i * 2, none⟩ = some (.int .i64 (X i)) ∧ w.cell? ⟨b, off + i * 2 + 1, none⟩ = some (.int .i64 (Y i)) := by
  obtain ⟨b', off', h1, h2, h3, h4⟩ := h i hi
  rw [ha] at h1
  cases h1
  exact ⟨h2, h3, h4⟩
theorem PtsIs.base {B : Nat} {w : World} {a : Option Addr} {n : Nat} {X Y : Nat → Int} (h : PtsIs B w a n X Y) (hn : 0 < n) : ∃ b off : Nat, a = some ⟨b, off, none⟩ := by
  obtain ⟨b, off, h1, _⟩ := h 0 hn
  exact ⟨b, off, h1⟩

set_option maxRecDepth 100000 in
set_option maxHeartbeats 8000000 in
theorem specIsValidPolygon_any (a : Option Addr) (n cap : Nat) (X Y : Nat → Int) (w : World) (hn : n ≤ 1048576) (hP : PtsIs w.heap.size w a n X Y) :
    Calls Tryd.prog 49 #[.slice a n cap] w fun e w' => e = .returned (.bool (polyB X Y n)) ∧ Below w.heap.size w w' := by
  have HP := Lib.hid hP
  clear hP
  have m2 : ((n : Int)).tmod 2 = ((n % 2 : Nat) : Int) := tmod_nat n 2
  by_cases h1 : n < 4
  · have q1 : (n : Int) < 4 := by omega
    rw [polyB_f (by omega)]
    go_enter Tryd.func49, Tryd.ntmps49
    go_wp2_with fail
    go_ret
    exact ⟨rfl, by (repeat (first | (with_reducible exact Below.refl _ _) | (with_reducible refine Ext.drewN ?_ _) | (with_reducible refine Below.drew ?_) | (with_reducible refine Ext.alloc ?_ _) | (with_reducible refine Ext.setCell ?_ (by simp; try omega) _) | (with_reducible refine Ext.trans ?_ (by assumption)) | (with_reducible assumption) | exact Below.refl _ _))⟩
  have q1 : ¬ (n : Int) < 4 := by omega
  by_cases h2 : 12800 < n
  · have q2 : (n : Int) > 12800 := by omega
    have q2' : 12800 < (n : Int) := by omega
    rw [polyB_f (by omega)]
    go_enter Tryd.func49, Tryd.ntmps49
    go_wp2_with fail
    go_ret
    exact ⟨rfl, by (repeat (first | (with_reducible exact Below.refl _ _) | (with_reducible refine Ext.drewN ?_ _) | (with_reducible refine Below.drew ?_) | (with_reducible refine Ext.alloc ?_ _) | (with_reducible refine Ext.setCell ?_ (by simp; try omega) _) | (with_reducible refine Ext.trans ?_ (by assumption)) | (with_reducible assumption) | exact Below.refl _ _))⟩
  have q2 : ¬ (n : Int) > 12800 := by omega
  have q2' : ¬ 12800 < (n : Int) := by omega
  by_cases h3 : n % 2 = 0
  case neg =>
    have h3' : n % 2 = 1 := by omega
    rw [h3'] at m2
    rw [polyB_f (by omega)]
    go_enter Tryd.func49, Tryd.ntmps49
    go_wp2_with fail
    go_ret
    exact ⟨rfl, by (repeat (first | (with_reducible exact Below.refl _ _) | (with_reducible refine Ext.drewN ?_ _) | (with_reducible refine Below.drew ?_) | (with_reducible refine Ext.alloc ?_ _) | (with_reducible refine Ext.setCell ?_ (by simp; try omega) _) | (with_reducible refine Ext.trans ?_ (by assumption)) | (with_reducible assumption) | exact Below.refl _ _))⟩
  rw [h3] at m2
  rw [polyB_mk (by omega) (by omega) h3]
  obtain ⟨b0, o0, ha⟩ := HP.out.base (by omega)
  go_enter Tryd.func49, Tryd.ntmps49
  go_wp2_with fail
  have hb := (HP.out.at ha (show 0 < n by omega)).1
  subst ha
  go_loopw [4] (fun s wr => ∃ i : Nat, i ≤ n ∧ s = .int .i64 i ∧ Below w.heap.size w wr ∧ Hid (∀ k, k < i → turnB X Y n k = true)) (fun s _ => n - (intOf s).toNat)
  case atStart => exact ⟨0, by omega, rfl, Below.refl _ _, Lib.hid fun k hk => absurd hk (by omega)⟩
  case round =>
    obtain ⟨i, hi, rfl, hW, HT⟩ := hrel
    by_cases hlt : i < n
    · obtain ⟨j, hj⟩ : ∃ j, j = (i + 1) % n := ⟨_, rfl⟩
      obtain ⟨k, hk⟩ : ∃ k, k = (i + 2) % n := ⟨_, rfl⟩
      have hjn : j < n := by rw [hj]; exact Nat.mod_lt _ (by omega)
      have hkn : k < n := by rw [hk]; exact Nat.mod_lt _ (by omega)
      have t1 : ((i : Int) + 1).tmod (n : Int) = (j : Int) := tmod_add 1 hj
      have t2 : ((i : Int) + 2).tmod (n : Int) = (k : Int) := tmod_add 2 hk
      have htu : turnB X Y n i = (onB (X i) (Y i) && ((decide (Y i = Y j) && !decide (X i = X j) && decide (X j = X k) && !decide (Y j = Y k)) || (decide (X i = X j) && !decide (Y i = Y j) && decide (Y j = Y k) && !decide (X j = X k)))) := by rw [hj, hk]; rfl
      have HTU := Lib.hid htu
      clear htu hj hk
      obtain ⟨_, cx, cy⟩ := (HP.out.below hW).at rfl hlt
      obtain ⟨_, dx, dy⟩ := (HP.out.below hW).at rfl hjn
      obtain ⟨_, ex, ey⟩ := (HP.out.below hW).at rfl hkn
      have q3 : (i : Int) < (n : Int) := by omega
      have q4 : (0 : Int) ≤ (i : Int) := by omega
      have q5 : (j : Int) < (n : Int) := by omega
      have q6 : (0 : Int) ≤ (j : Int) := by omega
      have q7 : (k : Int) < (n : Int) := by omega
      have q8 : (0 : Int) ≤ (k : Int) := by omega
      have e1 : IntKind.i64.wrap ((i : Int) + 1) = (i : Int) + 1 := by rw [IntKind.wrap_i64]; omega
      have e2 : IntKind.i64.wrap ((i : Int) + 2) = (i : Int) + 2 := by rw [IntKind.wrap_i64]; omega
      have e3 : IntKind.i64.wrap (j : Int) = (j : Int) := by rw [IntKind.wrap_i64]; omega
      have e4 : IntKind.i64.wrap (k : Int) = (k : Int) := by rw [IntKind.wrap_i64]; omega
      have hn0 : ¬ n = 0 := by omega
      have hbw := Nat.lt_of_lt_of_le hb hW.size
      generalize X i = xi at *
      generalize Y i = yi at *
      generalize X j = xj at *
      generalize Y j = yj at *
      generalize X k = xk at *
      generalize Y k = yk at *
      go_wp2_with fail
      all_goals
        subst_vars
        refine (l01OnChip_any _ _ _).mono ?_
        rintro e w1 ⟨rfl, bw1⟩
        generalize hoo : onB _ _ = o
        have HOO := Lib.hid hoo
        clear hoo
        cases o
        all_goals
          go_wp2_with fail
          all_goals
            first
              | (go_ret; exact ⟨ret_bool (turnsB_f hlt (by rw [HTU.out, HOO.out]; clear HTU HOO; first | (simp [*]; done) | (simp_all; done))).symm, by (repeat (first | (with_reducible exact Below.refl _ _) | (with_reducible refine Ext.drewN ?_ _) | (with_reducible refine Below.drew ?_) | (with_reducible refine Ext.alloc ?_ _) | (with_reducible refine Ext.setCell ?_ (by simp; try omega) _) | (with_reducible refine Ext.trans ?_ (by assumption)) | (with_reducible assumption) | exact Below.refl _ _))⟩)
              | (go_roundw
                 case rel => exact ⟨i + 1, by omega, by go_num, by (repeat (first | (with_reducible exact Below.refl _ _) | (with_reducible refine Ext.drewN ?_ _) | (with_reducible refine Below.drew ?_) | (with_reducible refine Ext.alloc ?_ _) | (with_reducible refine Ext.setCell ?_ (by simp; try omega) _) | (with_reducible refine Ext.trans ?_ (by assumption)) | (with_reducible assumption) | exact Below.refl _ _)), Lib.hid fun q hq => by
                   by_cases e : q = i
                   · rw [e, HTU.out, HOO.out]; clear HTU HOO; first | (simp [*]; done) | (simp_all; done)
                   · exact HT.out q (by omega)⟩
                 case measure => simp [intOf]; omega)
    · have q3 : ¬ (i : Int) < (n : Int) := by omega
      obtain rfl : i = n := by omega
      go_wp2_with fail
      go_ret
      exact ⟨ret_bool (turnsB_t HT.out).symm, hW⟩
end Go.Proofs.YtfbalpkjcfdakaaDoor
