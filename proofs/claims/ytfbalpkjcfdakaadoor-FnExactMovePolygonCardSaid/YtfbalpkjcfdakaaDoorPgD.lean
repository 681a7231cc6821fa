/- The program's IsValidPolygon. Condition: the points' cells are in memory. -/
import Derived.Test.YtfbalpkjcfdakaaDoorPgC
namespace Go.Proofs.YtfbalpkjcfdakaaDoor
open Go.RowKit
set_option linter.unusedVariables false
set_option linter.unusedSimpArgs false
attribute [local go_sem ↓] Go.wp_at_zero Go.wp_at_succ

theorem upright_any (a b c d : Int) (w : World) : Calls Tryd.prog 151 #[.agg #[.int .i64 a, .int .i64 b, .int .i64 c, .int .i64 d]] w fun e w' => e = .returned (.bool (decide (a = c))) ∧ Below w.heap.size w w' := by
  by_cases h : a = c
  · subst h
    go_enter Tryd.func151, Tryd.ntmps151
    go_wp2_with fail
    first | go_ret | (refine bodyPost_ret (v := .bool true) (by simp [*, results, Tryd.results151, go_sem]) rfl ?_)
    exact ⟨by simp, by (repeat (first | (with_reducible exact Below.refl _ _) | (with_reducible refine Ext.drewN ?_ _) | (with_reducible refine Below.drew ?_) | (with_reducible refine Ext.alloc ?_ _) | (with_reducible refine Ext.setCell ?_ (by simp; try omega) _) | (with_reducible refine Ext.trans ?_ (by assumption)) | (with_reducible assumption) | exact Below.refl _ _))⟩
  · go_enter Tryd.func151, Tryd.ntmps151
    go_wp2_with fail
    first | go_ret | (refine bodyPost_ret (v := .bool false) (by simp [*, results, Tryd.results151, go_sem]) rfl ?_)
    exact ⟨by simp [h], by (repeat (first | (with_reducible exact Below.refl _ _) | (with_reducible refine Ext.drewN ?_ _) | (with_reducible refine Below.drew ?_) | (with_reducible refine Ext.alloc ?_ _) | (with_reducible refine Ext.setCell ?_ (by simp; try omega) _) | (with_reducible refine Ext.trans ?_ (by assumption)) | (with_reducible assumption) | exact Below.refl _ _))⟩

theorem RectsIs.at {B : Nat} {w : World} {a : Option Addr} {n : Nat} {P Q R S : Nat → Int} (h : RectsIs B w a n P Q R S) {b off : Nat} (ha : a = some ⟨b, off, none⟩) {i : Nat} (hi : i < n) : b < B ∧ w.cell? ⟨b, off + i * 4, none⟩ = some (.int .i64 (P i)) ∧ w.cell? ⟨b, off + i * 4 + 1, none⟩ = some (.int .i64 (Q i)) ∧ w.cell? ⟨b, off + i * 4 + 2, none⟩ = some (.int .i64 (R i)) ∧ w.cell? ⟨b, off + i * 4 + 3, none⟩ = some (.int .i64 (S i)) := by
  obtain ⟨b', off', h1, h2, h3⟩ := h i hi
  rw [ha] at h1
  cases h1
  exact ⟨h2, h3⟩

/-- An edge in a block of its own, which may be written. -/
def Row4 (w : World) (g : Nat) (a b c d : Int) : Prop := (w.cell? ⟨g, 0, none⟩ = some (.int .i64 a) ∧ w.cell? ⟨g, 1, none⟩ = some (.int .i64 b) ∧ w.cell? ⟨g, 2, none⟩ = some (.int .i64 c) ∧ w.cell? ⟨g, 3, none⟩ = some (.int .i64 d)) ∧ w.frozen? ⟨g, 0, none⟩ = false ∧ w.frozen? ⟨g, 1, none⟩ = false ∧ w.frozen? ⟨g, 2, none⟩ = false ∧ w.frozen? ⟨g, 3, none⟩ = false
theorem Row4.below {w w' : World} {g B : Nat} {a b c d : Int} (h : Row4 w g a b c d) (hb : Below B w w') (hg : g < B) : Row4 w' g a b c d := by
  obtain ⟨⟨c0, c1, c2, c3⟩, f0, f1, f2, f3⟩ := h
  exact ⟨⟨(hb.cell (p := ⟨g, 0, none⟩) hg).trans c0, (hb.cell (p := ⟨g, 1, none⟩) hg).trans c1, (hb.cell (p := ⟨g, 2, none⟩) hg).trans c2, (hb.cell (p := ⟨g, 3, none⟩) hg).trans c3⟩, (hb.frozen (p := ⟨g, 0, none⟩) hg).trans f0, (hb.frozen (p := ⟨g, 1, none⟩) hg).trans f1, (hb.frozen (p := ⟨g, 2, none⟩) hg).trans f2, (hb.frozen (p := ⟨g, 3, none⟩) hg).trans f3⟩
theorem Row4.set {w : World} {g : Nat} {a b c d : Int} (h : Row4 w g a b c d) (p q r s : Int) : Row4 ((((w.setCell ⟨g, 0, none⟩ (.int .i64 p)).setCell ⟨g, 1, none⟩ (.int .i64 q)).setCell ⟨g, 2, none⟩ (.int .i64 r)).setCell ⟨g, 3, none⟩ (.int .i64 s)) g p q r s := by
  obtain ⟨⟨c0, c1, c2, c3⟩, f0, f1, f2, f3⟩ := h
  have hr : RectAt w g a b c d := ⟨c0, c1, c2, c3, f0, f1, f2, f3⟩
  obtain ⟨d0, d1, d2, d3, g0, g1, g2, g3⟩ := hr.set p q r s
  exact ⟨⟨d0, d1, d2, d3⟩, g0, g1, g2, g3⟩
set_option maxHeartbeats 4000000 in
theorem alternate_any (b off n cap : Nat) (P Q R S : Nat → Int) (w : World) (hn : n ≤ 1048576) (h0 : 0 < n) (hR : RectsIs w.heap.size w (some ⟨b, off, none⟩) n P Q R S) :
    Calls Tryd.prog 108 #[.slice (some ⟨b, off, none⟩) n cap] w fun e w' => e = .returned (.bool (altsB P Q R S n)) ∧ Below w.heap.size w w' := by
  obtain ⟨j, hj⟩ : ∃ j, j = n - 1 := ⟨_, rfl⟩
  have hjn : j < n := by omega
  have e1 : IntKind.i64.wrap ((n : Int) - 1) = (j : Int) := by rw [IntKind.wrap_i64]; omega
  have e1' : (n : Int) - 1 = (j : Int) := by omega
  have HJ := Lib.hid hj
  clear hj
  obtain ⟨hb, c0, c1, c2, c3⟩ := hR.at rfl hjn
  have q2 : (j : Int) < (n : Int) := by omega
  have q3 : (0 : Int) ≤ (j : Int) := by omega
  have HR := Lib.hid hR
  clear hR
  go_enter Tryd.func108, Tryd.ntmps108
  go_wp2_with fail
  go_loopw [14] (fun s wr => ∃ i : Nat, i ≤ n ∧ s = .int .i64 i ∧ w.heap.size < wr.heap.size ∧ Below w.heap.size w wr ∧ Row4 wr w.heap.size (P (pv n i)) (Q (pv n i)) (R (pv n i)) (S (pv n i)) ∧ Hid (∀ k, k < i → alt4 P Q R S n k = true)) (fun s _ => n - (intOf s).toNat)
  case atStart => exact ⟨0, by omega, rfl, by simp, by (repeat (first | (with_reducible exact Below.refl _ _) | (with_reducible refine Ext.drewN ?_ _) | (with_reducible refine Below.drew ?_) | (with_reducible refine Ext.alloc ?_ _) | (with_reducible refine Ext.setCell ?_ (by simp; try omega) _) | (with_reducible refine Ext.trans ?_ (by assumption)) | (with_reducible assumption) | exact Below.refl _ _)), by rw [show pv n 0 = j by rw [HJ.out]; rfl]; unfold Row4; simp [go_sem], Lib.hid fun k hk => absurd hk (by omega)⟩
  case round =>
    obtain ⟨i, hi, rfl, hsz, hW, hpr, HA⟩ := hrel
    by_cases hlt : i < n
    · obtain ⟨h, hh⟩ : ∃ h, h = pv n i := ⟨_, rfl⟩
      have hal : alt4 P Q R S n i = (elB (P i) (Q i) (R i) (S i) && (decide (P i = R i) != decide (P h = R h))) := by rw [hh]; rfl
      rw [← hh] at hpr
      have HAL := Lib.hid hal
      clear hh hal
      have HPR := Lib.hid hpr
      obtain ⟨⟨y0, y1, y2, y3⟩, g0, g1, g2, g3⟩ := hpr
      obtain ⟨_, d0, d1, d2, d3⟩ := (HR.out.below hW).at rfl hlt
      have q1 : (i : Int) < (n : Int) := by omega
      have q0 : (0 : Int) ≤ (i : Int) := by omega
      have hbw := Nat.lt_of_lt_of_le hb hW.size
      cases hel : elB (P i) (Q i) (R i) (S i) with
      | false =>
        have hE := fun w => implEdgeLength_any (P i) (Q i) (R i) (S i) w
        rw [elV_f hel] at hE
        rw [hel, Bool.false_and] at HAL
        go_wp2_with fail
        go_region_with (first | (go_at_call 117; refine (hE _).mono ?_; rintro e v1 ⟨rfl, bv1⟩))
        all_goals
          go_wp2_with fail
          go_ret
          exact ⟨ret_bool (altsB_f hlt HAL.out).symm, by first | assumption | (repeat (first | (with_reducible exact Below.refl _ _) | (with_reducible refine Ext.drewN ?_ _) | (with_reducible refine Below.drew ?_) | (with_reducible refine Ext.alloc ?_ _) | (with_reducible refine Ext.setCell ?_ (by simp; try omega) _) | (with_reducible refine Ext.trans ?_ (by assumption)) | (with_reducible assumption) | exact Below.refl _ _))⟩
      | true =>
        have hE := fun w => implEdgeLength_any (P i) (Q i) (R i) (S i) w
        have hz := elV_ne hel
        have hz0 : (elV (P i) (Q i) (R i) (S i) == -1) = false := by simpa using hz
        generalize elV (P i) (Q i) (R i) (S i) = z at hE hz hz0
        rw [hel, Bool.true_and] at HAL
        cases hp : decide (P i = R i)
        all_goals
          cases hq : decide (P h = R h)
          all_goals
            have hU1 := fun w => upright_any (P i) (Q i) (R i) (S i) w
            have hU2 := fun w => upright_any (P h) (Q h) (R h) (S h) w
            rw [hp] at HAL hU1
            rw [hq] at HAL hU2
            go_wp2_with fail
            go_region_with (first | (go_at_call 117; refine (hE _).mono ?_; rintro e v1 ⟨rfl, bv1⟩; obtain ⟨sv1, zv1, cv1, fv1⟩ := bcell bv1; (try simp only [World.size_alloc, World.size_setCell, World.size_drew] at sv1); (try have nv1_w : w.heap.size < v1.heap.size := by omega); (try have nv1_0 : wr.heap.size < v1.heap.size := by omega)) | (go_at_call_of 151 (Value.agg #[Value.int IntKind.i64 (P i), Value.int IntKind.i64 (Q i), Value.int IntKind.i64 (R i), Value.int IntKind.i64 (S i)]); refine (hU1 _).mono ?_; rintro e v2 ⟨rfl, bv2⟩; obtain ⟨sv2, zv2, cv2, fv2⟩ := bcell bv2; (try simp only [World.size_alloc, World.size_setCell, World.size_drew] at sv2); (try have nv2_w : w.heap.size < v2.heap.size := by omega); (try have nv2_0 : wr.heap.size < v2.heap.size := by omega)) | (go_at_call_of 151 (Value.agg #[Value.int IntKind.i64 (P h), Value.int IntKind.i64 (Q h), Value.int IntKind.i64 (R h), Value.int IntKind.i64 (S h)]); refine (hU2 _).mono ?_; rintro e v3 ⟨rfl, bv3⟩; obtain ⟨sv3, zv3, cv3, fv3⟩ := bcell bv3; (try simp only [World.size_alloc, World.size_setCell, World.size_drew] at sv3)))
            all_goals
              have BW : Below wr.heap.size wr v3 := by (repeat (first | (with_reducible exact Below.refl _ _) | (with_reducible refine Ext.drewN ?_ _) | (with_reducible refine Below.drew ?_) | (with_reducible refine Ext.alloc ?_ _) | (with_reducible refine Ext.setCell ?_ (by simp; try omega) _) | (with_reducible refine Ext.trans ?_ (by assumption)) | (with_reducible assumption) | exact Below.refl _ _))
              have BWw : Below w.heap.size w v3 := hW.trans (BW.mono hW.size)
              have hrow := HPR.out.below BW hsz
              have hset := hrow.set (P i) (Q i) (R i) (S i)
              obtain ⟨⟨x0, x1, x2, x3⟩, k0, k1, k2, k3⟩ := hrow
              have hs3 : w.heap.size < v3.heap.size := by omega
              go_wp2_with fail
              first
                | (go_ret; exact ⟨ret_bool (altsB_f hlt HAL.out).symm, BWw⟩)
                | (go_roundw
                   case rel => exact ⟨i + 1, by omega, by go_num, by simp; omega, by (repeat (first | (with_reducible exact Below.refl _ _) | (with_reducible refine Ext.drewN ?_ _) | (with_reducible refine Below.drew ?_) | (with_reducible refine Ext.alloc ?_ _) | (with_reducible refine Ext.setCell ?_ (by simp; try omega) _) | (with_reducible refine Ext.trans ?_ (by assumption)) | (with_reducible assumption) | exact Below.refl _ _)), hset, Lib.hid fun k hk => by
                     by_cases e : k = i
                     · subst e; exact HAL.out
                     · exact HA.out k (by omega)⟩
                   case measure => simp [intOf]; omega)
    · have q1 : ¬ (i : Int) < (n : Int) := by omega
      obtain rfl : i = n := by omega
      go_wp2_with fail
      go_ret
      exact ⟨ret_bool (altsB_t HA.out).symm, hW⟩

set_option maxHeartbeats 4000000 in
theorem implIsValidPolygon_any (a : Option Addr) (n cap : Nat) (X Y : Nat → Int) (w : World) (hn : n ≤ 1048576) (hP : PtsIs w.heap.size w a n X Y) :
    Calls Tryd.prog 54 #[.slice a n cap] w fun e w' => e = .returned (.bool (polyB X Y n)) ∧ Below w.heap.size w w' := by
  have m2 : ((n : Int)).tmod 2 = ((n % 2 : Nat) : Int) := tmod_nat n 2
  have hr : inB (n : Int) 4 12800 = decide (4 ≤ n ∧ n ≤ 12800) := by unfold inB; exact decide_eq_decide.2 (by omega)
  by_cases h3 : n % 2 = 0
  case neg =>
    have h3' : n % 2 = 1 := by omega
    rw [h3'] at m2
    rw [polyB_f (by omega)]
    go_enter Tryd.func54, Tryd.ntmps54
    go_wp2_with fail
    go_ret
    exact ⟨rfl, by (repeat (first | (with_reducible exact Below.refl _ _) | (with_reducible refine Ext.drewN ?_ _) | (with_reducible refine Below.drew ?_) | (with_reducible refine Ext.alloc ?_ _) | (with_reducible refine Ext.setCell ?_ (by simp; try omega) _) | (with_reducible refine Ext.trans ?_ (by assumption)) | (with_reducible assumption) | exact Below.refl _ _))⟩
  rw [h3] at m2
  by_cases h1 : 4 ≤ n ∧ n ≤ 12800
  case neg =>
    rw [decide_eq_false h1] at hr
    rw [polyB_f (by omega)]
    go_enter Tryd.func54, Tryd.ntmps54
    go_wp2_with (go_at_call 107; refine (inRange_any _ _ _ _).mono ?_; rintro e v1 ⟨rfl, rfl⟩; rw [hr])
    go_ret
    exact ⟨rfl, by (repeat (first | (with_reducible exact Below.refl _ _) | (with_reducible refine Ext.drewN ?_ _) | (with_reducible refine Below.drew ?_) | (with_reducible refine Ext.alloc ?_ _) | (with_reducible refine Ext.setCell ?_ (by simp; try omega) _) | (with_reducible refine Ext.trans ?_ (by assumption)) | (with_reducible assumption) | exact Below.refl _ _))⟩
  rw [decide_eq_true h1] at hr
  rw [polyB_mk h1.1 h1.2 h3, ← alts_turns X Y n]
  go_enter Tryd.func54, Tryd.ntmps54
  go_wp2_with (first | (go_at_call 107; refine (inRange_any _ _ _ _).mono ?_; rintro e v1 ⟨rfl, rfl⟩; rw [hr]) | (go_at_call 66; refine (sidesOf_any a n cap X Y _ hn (hP.ext (by (repeat (first | (with_reducible exact Below.refl _ _) | (with_reducible refine Ext.drewN ?_ _) | (with_reducible refine Below.drew ?_) | (with_reducible refine Ext.alloc ?_ _) | (with_reducible refine Ext.setCell ?_ (by simp; try omega) _) | (with_reducible refine Ext.trans ?_ (by assumption)) | (with_reducible assumption) | exact Below.refl _ _))))).mono ?_; rintro e v2 ⟨g2, hg2, hg2', rfl, bv2, R2⟩) | (go_at_call 108; refine (alternate_any g2 0 n n _ _ _ _ _ hn (by omega) R2).mono ?_; rintro e v3 ⟨rfl, bv3⟩))
  go_ret
  exact ⟨rfl, by (repeat (first | (with_reducible exact Below.refl _ _) | (with_reducible refine Ext.drewN ?_ _) | (with_reducible refine Below.drew ?_) | (with_reducible refine Ext.alloc ?_ _) | (with_reducible refine Ext.setCell ?_ (by simp; try omega) _) | (with_reducible refine Ext.trans ?_ (by assumption)) | (with_reducible assumption) | exact Below.refl _ _))⟩
end Go.Proofs.YtfbalpkjcfdakaaDoor
