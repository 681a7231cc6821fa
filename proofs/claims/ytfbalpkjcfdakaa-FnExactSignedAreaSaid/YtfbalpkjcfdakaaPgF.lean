/- The signed area, by the model and by the program. Condition: the points' cells are in memory. -/
import Derived.Test.YtfbalpkjcfdakaaPgE
namespace Go.Proofs.Ytfbalpkjcfdakaa
open Go.RowKit
set_option linter.unusedVariables false
set_option linter.unusedSimpArgs false
attribute [local go_sem ↓] Go.wp_at_zero Go.wp_at_succ

theorem saV_f {X Y : Nat → Int} {n : Nat} (h : polyB X Y n = false) : saV X Y n = 0 := by simp [saV, h]
theorem saV_t {X Y : Nat → Int} {n : Nat} (h : polyB X Y n = true) : saV X Y n = arS X Y (fun i => Y ((i + 1) % n)) n := by simp [saV, h]
/-- What a step of the sum is like. -/
theorem ar_step {X Y : Nat → Int} {n i : Nat} (h : polyB X Y n = true) (hi : i < n) : IntKind.i64.wrap (Y ((i + 1) % n) - Y i) = Y ((i + 1) % n) - Y i ∧ IntKind.i64.wrap (X i * (Y ((i + 1) % n) - Y i)) = X i * (Y ((i + 1) % n) - Y i) ∧ IntKind.i64.wrap (arS X Y (fun i => Y ((i + 1) % n)) i + X i * (Y ((i + 1) % n) - Y i)) = arS X Y (fun i => Y ((i + 1) % n)) i + X i * (Y ((i + 1) % n) - Y i) ∧ (X i ≠ X ((i + 1) % n) → arS X Y (fun i => Y ((i + 1) % n)) (i + 1) = arS X Y (fun i => Y ((i + 1) % n)) i) := by
  obtain ⟨h1, h2, h3, h4⟩ := polyB_t h
  have on := fun k (hk : k < n) => turn_on (turnsB_at h4 hk)
  have hj : (i + 1) % n < n := Nat.mod_lt _ (by omega)
  have a := on i hi
  have b := on _ hj
  have hm := mul_bound (A := 40) (B := 80) (a := X i) (b := Y ((i + 1) % n) - Y i) (by omega) (by omega) (by omega) (by omega)
  have hs := arS_le X Y (fun i => Y ((i + 1) % n)) i fun k hk => ⟨(on k (by omega)).1, (on k (by omega)).2, (on _ (Nat.mod_lt _ (by omega))).2⟩
  refine ⟨by rw [IntKind.wrap_i64]; omega, by rw [IntKind.wrap_i64]; omega, by rw [IntKind.wrap_i64]; omega, fun hne => ?_⟩
  have ht := turn_side (turnsB_at h4 hi)
  have he : Y i = Y ((i + 1) % n) := by omega
  show arS X Y _ i + X i * (Y ((i + 1) % n) - Y i) = _
  rw [← he, Int.sub_self, Int.mul_zero, Int.add_zero]

set_option maxHeartbeats 4000000 in
theorem specSignedArea_any (a : Option Addr) (n cap : Nat) (X Y : Nat → Int) (w : World) (hn : n ≤ 1048576) (hP : PtsIs w.heap.size w a n X Y) :
    Calls Try.prog 11 #[.slice a n cap] w fun e w' => e = .returned (.int .i64 (saV X Y n)) ∧ Below w.heap.size w w' := by
  have hV := fun w' hP' => specIsValidPolygon_any a n cap X Y w' hn hP'
  cases hp : polyB X Y n with
  | false =>
    rw [saV_f hp]
    rw [hp] at hV
    go_enter Try.func11, Try.ntmps11
    go_wp2_with (go_at_call 7; refine (hV _ (hP.ext (by (repeat (first | (with_reducible exact Below.refl _ _) | (with_reducible refine Ext.drewN ?_ _) | (with_reducible refine Below.drew ?_) | (with_reducible refine Ext.alloc ?_ _) | (with_reducible refine Ext.setCell ?_ (by simp; try omega) _) | (with_reducible refine Ext.trans ?_ (by assumption)) | (with_reducible assumption) | exact Below.refl _ _))))).mono ?_; rintro e w1 ⟨rfl, bw1⟩)
    go_ret
    exact ⟨rfl, by (repeat (first | (with_reducible exact Below.refl _ _) | (with_reducible refine Ext.drewN ?_ _) | (with_reducible refine Below.drew ?_) | (with_reducible refine Ext.alloc ?_ _) | (with_reducible refine Ext.setCell ?_ (by simp; try omega) _) | (with_reducible refine Ext.trans ?_ (by assumption)) | (with_reducible assumption) | exact Below.refl _ _))⟩
  | true =>
    rw [saV_t hp]
    rw [hp] at hV
    have HP := Lib.hid hp
    have hS := fun w' hP' => l08Sides_any a n cap X Y w' hn hP'
    go_enter Try.func11, Try.ntmps11
    go_wp2_with (first | (go_at_call 7; refine (hV _ (hP.ext (by (repeat (first | (with_reducible exact Below.refl _ _) | (with_reducible refine Ext.drewN ?_ _) | (with_reducible refine Below.drew ?_) | (with_reducible refine Ext.alloc ?_ _) | (with_reducible refine Ext.setCell ?_ (by simp; try omega) _) | (with_reducible refine Ext.trans ?_ (by assumption)) | (with_reducible assumption) | exact Below.refl _ _))))).mono ?_; rintro e w1 ⟨rfl, bw1⟩) | (go_at_call 21; refine (hS _ (hP.ext (by (repeat (first | (with_reducible exact Below.refl _ _) | (with_reducible refine Ext.drewN ?_ _) | (with_reducible refine Below.drew ?_) | (with_reducible refine Ext.alloc ?_ _) | (with_reducible refine Ext.setCell ?_ (by simp; try omega) _) | (with_reducible refine Ext.trans ?_ (by assumption)) | (with_reducible assumption) | exact Below.refl _ _))))).mono ?_; rintro e w2 ⟨⟨g, c, rfl, hc, hg, R2⟩, bw2⟩))
    have BW : Below w.heap.size w w2 := by (repeat (first | (with_reducible exact Below.refl _ _) | (with_reducible refine Ext.drewN ?_ _) | (with_reducible refine Below.drew ?_) | (with_reducible refine Ext.alloc ?_ _) | (with_reducible refine Ext.setCell ?_ (by simp; try omega) _) | (with_reducible refine Ext.trans ?_ (by assumption)) | (with_reducible assumption) | exact Below.refl _ _))
    have RS := Lib.hid R2
    clear bw1 bw2 R2 hp hV hS hP
    go_loopw [3, 5] (fun s3 s5 wr => ∃ i : Nat, i ≤ n ∧ s5 = .int .i64 (i : Nat) ∧ s3 = .int .i64 (arS X Y (fun i => Y ((i + 1) % n)) i) ∧ Below w2.heap.size w2 wr) (fun _ s5 _ => n - (intOf s5).toNat)
    case atStart => exact ⟨0, by omega, rfl, rfl, Below.refl _ _⟩
    case round =>
      obtain ⟨i, hi, rfl, rfl, hW⟩ := hrel
      by_cases hlt : i < n
      · obtain ⟨_, c0, c1, c2, c3⟩ := (RS.out.below hW).at rfl hlt
        simp only [Nat.zero_add] at c0 c1 c2 c3
        obtain ⟨a1, a2, a3, a4⟩ := ar_step HP.out hlt
        have HA : Hid (arS X Y (fun i => Y ((i + 1) % n)) (i + 1) = arS X Y (fun i => Y ((i + 1) % n)) i + X i * (Y ((i + 1) % n) - Y i)) := Lib.hid rfl
        have A4 := Lib.hid a4
        clear a4
        generalize arS X Y (fun i => Y ((i + 1) % n)) i = z at a3 HA A4 ⊢
        generalize X ((i + 1) % n) = xj at c2 A4
        generalize Y ((i + 1) % n) = yj at c3 a1 a2 a3 HA
        have q1 : (i : Int) < (n : Int) := by omega
        have q0 : (0 : Int) ≤ (i : Int) := by omega
        have e1 : IntKind.i64.wrap ((i : Int) + 1) = (i : Int) + 1 := by rw [IntKind.wrap_i64]; omega
        by_cases he : X i = xj
        · subst he
          go_wp2_with fail
          go_region
          all_goals
            go_wp2_with fail
            go_region
            all_goals
              go_wp2_with fail
              go_roundw
              case rel => exact ⟨i + 1, by omega, by go_num, by rw [HA.out], by first | assumption | (repeat (first | (with_reducible exact Below.refl _ _) | (with_reducible refine Ext.drewN ?_ _) | (with_reducible refine Below.drew ?_) | (with_reducible refine Ext.alloc ?_ _) | (with_reducible refine Ext.setCell ?_ (by simp; try omega) _) | (with_reducible refine Ext.trans ?_ (by assumption)) | (with_reducible assumption) | exact Below.refl _ _))⟩
              case measure => simp [intOf]; omega
        · go_wp2_with fail
          go_region
          all_goals
            go_wp2_with fail
            go_roundw
            case rel => exact ⟨i + 1, by omega, by go_num, by rw [A4.out he], by first | assumption | (repeat (first | (with_reducible exact Below.refl _ _) | (with_reducible refine Ext.drewN ?_ _) | (with_reducible refine Below.drew ?_) | (with_reducible refine Ext.alloc ?_ _) | (with_reducible refine Ext.setCell ?_ (by simp; try omega) _) | (with_reducible refine Ext.trans ?_ (by assumption)) | (with_reducible assumption) | exact Below.refl _ _))⟩
            case measure => simp [intOf]; omega
      · have q1 : ¬ (i : Int) < (n : Int) := by omega
        obtain rfl : i = n := by omega
        go_wp2_with fail
        go_ret
        exact ⟨rfl, by (repeat (first | (with_reducible exact Below.refl _ _) | (with_reducible refine Ext.drewN ?_ _) | (with_reducible refine Below.drew ?_) | (with_reducible refine Ext.alloc ?_ _) | (with_reducible refine Ext.setCell ?_ (by simp; try omega) _) | (with_reducible refine Ext.trans ?_ (by assumption)) | (with_reducible assumption) | exact Below.refl _ _))⟩

set_option maxHeartbeats 4000000 in
theorem implSignedArea_any (a : Option Addr) (n cap : Nat) (X Y : Nat → Int) (w : World) (hn : n ≤ 1048576) (hP : PtsIs w.heap.size w a n X Y) :
    Calls Try.prog 12 #[.slice a n cap] w fun e w' => e = .returned (.int .i64 (saV X Y n)) ∧ Below w.heap.size w w' := by
  have hV := fun w' hP' => implIsValidPolygon_any a n cap X Y w' hn hP'
  cases hp : polyB X Y n with
  | false =>
    rw [saV_f hp]
    rw [hp] at hV
    go_enter Try.func12, Try.ntmps12
    go_wp2_with (go_at_call 9; refine (hV _ (hP.ext (by (repeat (first | (with_reducible exact Below.refl _ _) | (with_reducible refine Ext.drewN ?_ _) | (with_reducible refine Below.drew ?_) | (with_reducible refine Ext.alloc ?_ _) | (with_reducible refine Ext.setCell ?_ (by simp; try omega) _) | (with_reducible refine Ext.trans ?_ (by assumption)) | (with_reducible assumption) | exact Below.refl _ _))))).mono ?_; rintro e w1 ⟨rfl, bw1⟩)
    go_ret
    exact ⟨rfl, by (repeat (first | (with_reducible exact Below.refl _ _) | (with_reducible refine Ext.drewN ?_ _) | (with_reducible refine Below.drew ?_) | (with_reducible refine Ext.alloc ?_ _) | (with_reducible refine Ext.setCell ?_ (by simp; try omega) _) | (with_reducible refine Ext.trans ?_ (by assumption)) | (with_reducible assumption) | exact Below.refl _ _))⟩
  | true =>
    rw [saV_t hp]
    rw [hp] at hV
    have HP := Lib.hid hp
    have hS := fun w' hP' => sidesOf_any a n cap X Y w' hn hP'
    go_enter Try.func12, Try.ntmps12
    go_wp2_with (first | (go_at_call 9; refine (hV _ (hP.ext (by (repeat (first | (with_reducible exact Below.refl _ _) | (with_reducible refine Ext.drewN ?_ _) | (with_reducible refine Below.drew ?_) | (with_reducible refine Ext.alloc ?_ _) | (with_reducible refine Ext.setCell ?_ (by simp; try omega) _) | (with_reducible refine Ext.trans ?_ (by assumption)) | (with_reducible assumption) | exact Below.refl _ _))))).mono ?_; rintro e w1 ⟨rfl, bw1⟩) | (go_at_call 19; refine (hS _ (hP.ext (by (repeat (first | (with_reducible exact Below.refl _ _) | (with_reducible refine Ext.drewN ?_ _) | (with_reducible refine Below.drew ?_) | (with_reducible refine Ext.alloc ?_ _) | (with_reducible refine Ext.setCell ?_ (by simp; try omega) _) | (with_reducible refine Ext.trans ?_ (by assumption)) | (with_reducible assumption) | exact Below.refl _ _))))).mono ?_; rintro e w2 ⟨g, hg, hg', rfl, bw2, R2⟩))
    have BW : Below w.heap.size w w2 := by (repeat (first | (with_reducible exact Below.refl _ _) | (with_reducible refine Ext.drewN ?_ _) | (with_reducible refine Below.drew ?_) | (with_reducible refine Ext.alloc ?_ _) | (with_reducible refine Ext.setCell ?_ (by simp; try omega) _) | (with_reducible refine Ext.trans ?_ (by assumption)) | (with_reducible assumption) | exact Below.refl _ _))
    have RS := Lib.hid R2
    clear bw1 bw2 R2 hp hV hS hP
    go_loopw [3, 12] (fun s3 s12 wr => ∃ i : Nat, i ≤ n ∧ s12 = .int .i64 (i : Nat) ∧ s3 = .int .i64 (arS X Y (fun i => Y ((i + 1) % n)) i) ∧ Below w2.heap.size w2 wr) (fun _ s12 _ => n - (intOf s12).toNat)
    case atStart => exact ⟨0, by omega, rfl, rfl, Below.refl _ _⟩
    case round =>
      obtain ⟨i, hi, rfl, rfl, hW⟩ := hrel
      by_cases hlt : i < n
      · obtain ⟨_, c0, c1, c2, c3⟩ := (RS.out.below hW).at rfl hlt
        simp only [Nat.zero_add] at c0 c1 c2 c3
        obtain ⟨a1, a2, a3, a4⟩ := ar_step HP.out hlt
        have HA : Hid (arS X Y (fun i => Y ((i + 1) % n)) (i + 1) = arS X Y (fun i => Y ((i + 1) % n)) i + X i * (Y ((i + 1) % n) - Y i)) := Lib.hid rfl
        have A4 := Lib.hid a4
        clear a4
        generalize arS X Y (fun i => Y ((i + 1) % n)) i = z at a3 HA A4 ⊢
        generalize X ((i + 1) % n) = xj at c2 A4
        generalize Y ((i + 1) % n) = yj at c3 a1 a2 a3 HA
        have q1 : (i : Int) < (n : Int) := by omega
        have q0 : (0 : Int) ≤ (i : Int) := by omega
        have e1 : IntKind.i64.wrap ((i : Int) + 1) = (i : Int) + 1 := by rw [IntKind.wrap_i64]; omega
        go_wp2_with fail
        go_roundw
        case rel => exact ⟨i + 1, by omega, by go_num, by rw [HA.out], by first | assumption | (repeat (first | (with_reducible exact Below.refl _ _) | (with_reducible refine Ext.drewN ?_ _) | (with_reducible refine Below.drew ?_) | (with_reducible refine Ext.alloc ?_ _) | (with_reducible refine Ext.setCell ?_ (by simp; try omega) _) | (with_reducible refine Ext.trans ?_ (by assumption)) | (with_reducible assumption) | exact Below.refl _ _))⟩
        case measure => simp [intOf]; omega
      · have q1 : ¬ (i : Int) < (n : Int) := by omega
        obtain rfl : i = n := by omega
        go_wp2_with fail
        go_ret
        exact ⟨rfl, by (repeat (first | (with_reducible exact Below.refl _ _) | (with_reducible refine Ext.drewN ?_ _) | (with_reducible refine Below.drew ?_) | (with_reducible refine Ext.alloc ?_ _) | (with_reducible refine Ext.setCell ?_ (by simp; try omega) _) | (with_reducible refine Ext.trans ?_ (by assumption)) | (with_reducible assumption) | exact Below.refl _ _))⟩
end Go.Proofs.Ytfbalpkjcfdakaa
