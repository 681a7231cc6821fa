/- SamePolygon by the model. Condition: the points' cells are in memory. -/
import Derived.Test.YtfbalpkjcfdakaaSmB
namespace Go.Proofs.Ytfbalpkjcfdakaa
open Go.RowKit
set_option linter.unusedVariables false
set_option linter.unusedSimpArgs false
attribute [local go_sem ↓] Go.wp_at_zero Go.wp_at_succ

set_option maxRecDepth 100000 in
set_option maxHeartbeats 8000000 in
theorem specSamePolygon_any (a b : Option Addr) (n m c1 c2 : Nat) (X Y U V : Nat → Int) (w : World) (hn : n ≤ 1048576) (hm : m ≤ 1048576) (hP : PtsIs w.heap.size w a n X Y) (hQ : PtsIs w.heap.size w b m U V) :
    Calls Try.prog 13 #[.slice a n c1, .slice b m c2] w fun e w' => e = .returned (.bool (sameB X Y U V n m)) ∧ Below w.heap.size w w' := by
  have hV1 := fun w' hP' => specIsValidPolygon_any a n c1 X Y w' hn hP'
  have hV2 := fun w' hQ' => specIsValidPolygon_any b m c2 U V w' hm hQ'
  by_cases hall : polyB X Y n = true ∧ polyB U V m = true ∧ n = m
  case neg =>
    rw [sameB_f hall]
    cases h1 : polyB X Y n with
    | false =>
      rw [h1] at hV1
      go_enter Try.func13, Try.ntmps13
      go_wp2_with (first | (go_at_call_of 7 (Value.slice a n c1); refine (hV1 _ (hP.ext (by (repeat (first | (with_reducible exact Below.refl _ _) | (with_reducible refine Ext.drewN ?_ _) | (with_reducible refine Below.drew ?_) | (with_reducible refine Ext.alloc ?_ _) | (with_reducible refine Ext.setCell ?_ (by simp; try omega) _) | (with_reducible refine Ext.trans ?_ (by assumption)) | (with_reducible assumption) | exact Below.refl _ _))))).mono ?_; rintro e w1 ⟨rfl, bw1⟩))
      go_ret
      exact ⟨rfl, by (repeat (first | (with_reducible exact Below.refl _ _) | (with_reducible refine Ext.drewN ?_ _) | (with_reducible refine Below.drew ?_) | (with_reducible refine Ext.alloc ?_ _) | (with_reducible refine Ext.setCell ?_ (by simp; try omega) _) | (with_reducible refine Ext.trans ?_ (by assumption)) | (with_reducible assumption) | exact Below.refl _ _))⟩
    | true =>
      cases h2 : polyB U V m with
      | false =>
        rw [h1] at hV1
        rw [h2] at hV2
        go_enter Try.func13, Try.ntmps13
        go_wp2_with (first | (have hx := bw1; clear hx; go_at_call 7; refine (hV2 _ (hQ.ext (by (repeat (first | (with_reducible exact Below.refl _ _) | (with_reducible refine Ext.drewN ?_ _) | (with_reducible refine Below.drew ?_) | (with_reducible refine Ext.alloc ?_ _) | (with_reducible refine Ext.setCell ?_ (by simp; try omega) _) | (with_reducible refine Ext.trans ?_ (by assumption)) | (with_reducible assumption) | exact Below.refl _ _))))).mono ?_; rintro e w2 ⟨rfl, bw2⟩) | (go_at_call 7; refine (hV1 _ (hP.ext (by (repeat (first | (with_reducible exact Below.refl _ _) | (with_reducible refine Ext.drewN ?_ _) | (with_reducible refine Below.drew ?_) | (with_reducible refine Ext.alloc ?_ _) | (with_reducible refine Ext.setCell ?_ (by simp; try omega) _) | (with_reducible refine Ext.trans ?_ (by assumption)) | (with_reducible assumption) | exact Below.refl _ _))))).mono ?_; rintro e w1 ⟨rfl, bw1⟩))
        go_ret
        exact ⟨rfl, by (repeat (first | (with_reducible exact Below.refl _ _) | (with_reducible refine Ext.drewN ?_ _) | (with_reducible refine Below.drew ?_) | (with_reducible refine Ext.alloc ?_ _) | (with_reducible refine Ext.setCell ?_ (by simp; try omega) _) | (with_reducible refine Ext.trans ?_ (by assumption)) | (with_reducible assumption) | exact Below.refl _ _))⟩
      | true =>
        have hnm : ¬ n = m := fun e => hall ⟨h1, h2, e⟩
        have hnm' : ¬ (n : Int) = (m : Int) := by omega
        rw [h1] at hV1
        rw [h2] at hV2
        go_enter Try.func13, Try.ntmps13
        go_wp2_with (first | (have hx := bw1; clear hx; go_at_call 7; refine (hV2 _ (hQ.ext (by (repeat (first | (with_reducible exact Below.refl _ _) | (with_reducible refine Ext.drewN ?_ _) | (with_reducible refine Below.drew ?_) | (with_reducible refine Ext.alloc ?_ _) | (with_reducible refine Ext.setCell ?_ (by simp; try omega) _) | (with_reducible refine Ext.trans ?_ (by assumption)) | (with_reducible assumption) | exact Below.refl _ _))))).mono ?_; rintro e w2 ⟨rfl, bw2⟩) | (go_at_call 7; refine (hV1 _ (hP.ext (by (repeat (first | (with_reducible exact Below.refl _ _) | (with_reducible refine Ext.drewN ?_ _) | (with_reducible refine Below.drew ?_) | (with_reducible refine Ext.alloc ?_ _) | (with_reducible refine Ext.setCell ?_ (by simp; try omega) _) | (with_reducible refine Ext.trans ?_ (by assumption)) | (with_reducible assumption) | exact Below.refl _ _))))).mono ?_; rintro e w1 ⟨rfl, bw1⟩))
        go_ret
        exact ⟨rfl, by (repeat (first | (with_reducible exact Below.refl _ _) | (with_reducible refine Ext.drewN ?_ _) | (with_reducible refine Below.drew ?_) | (with_reducible refine Ext.alloc ?_ _) | (with_reducible refine Ext.setCell ?_ (by simp; try omega) _) | (with_reducible refine Ext.trans ?_ (by assumption)) | (with_reducible assumption) | exact Below.refl _ _))⟩
  obtain ⟨h1, h2, rfl⟩ := hall
  rw [sameB_t h1 h2]
  obtain ⟨p1, p2, _, _⟩ := polyB_t h1
  rw [h1] at hV1
  rw [h2] at hV2
  clear h1 h2
  obtain ⟨b1, o1, rfl⟩ := hP.base (by omega)
  obtain ⟨b2, o2, rfl⟩ := hQ.base (by omega)
  go_enter Try.func13, Try.ntmps13
  go_wp2_with (first | (have hx := bw1; clear hx; go_at_call 7; refine (hV2 _ (hQ.ext (by (repeat (first | (with_reducible exact Below.refl _ _) | (with_reducible refine Ext.drewN ?_ _) | (with_reducible refine Below.drew ?_) | (with_reducible refine Ext.alloc ?_ _) | (with_reducible refine Ext.setCell ?_ (by simp; try omega) _) | (with_reducible refine Ext.trans ?_ (by assumption)) | (with_reducible assumption) | exact Below.refl _ _))))).mono ?_; rintro e w2 ⟨rfl, bw2⟩) | (go_at_call 7; refine (hV1 _ (hP.ext (by (repeat (first | (with_reducible exact Below.refl _ _) | (with_reducible refine Ext.drewN ?_ _) | (with_reducible refine Below.drew ?_) | (with_reducible refine Ext.alloc ?_ _) | (with_reducible refine Ext.setCell ?_ (by simp; try omega) _) | (with_reducible refine Ext.trans ?_ (by assumption)) | (with_reducible assumption) | exact Below.refl _ _))))).mono ?_; rintro e w1 ⟨rfl, bw1⟩))
  have B2 : Below w.heap.size w w2 := by (repeat (first | (with_reducible exact Below.refl _ _) | (with_reducible refine Ext.drewN ?_ _) | (with_reducible refine Below.drew ?_) | (with_reducible refine Ext.alloc ?_ _) | (with_reducible refine Ext.setCell ?_ (by simp; try omega) _) | (with_reducible refine Ext.trans ?_ (by assumption)) | (with_reducible assumption) | exact Below.refl _ _))
  have HP := Lib.hid hP
  have HQ := Lib.hid hQ
  clear bw1 bw2 hP hQ hV1 hV2
  go_loopw [5] (fun s wr => ∃ k : Nat, k ≤ n ∧ s = .int .i64 k ∧ Below w.heap.size w wr ∧ Hid (∀ j, j < k → rotB X Y U V n j = false)) (fun s _ => n - (intOf s).toNat)
  case atStart => exact ⟨0, by omega, rfl, B2, Lib.hid fun k hk => absurd hk (by omega)⟩
  case round =>
    obtain ⟨k, hk, rfl, hW, HA⟩ := hrel
    clear B2
    by_cases hlt : k < n
    · have q1 : (k : Int) < (n : Int) := by omega
      have q0 : (0 : Int) ≤ (k : Int) := by omega
      go_wp2_with fail
      go_loopw [6, 7] (fun s6 s7 wq => ∃ (i : Nat) (sm : Bool), i ≤ n ∧ s7 = .int .i64 (i : Nat) ∧ s6 = .bool sm ∧ Below w.heap.size w wq ∧ Hid (sm = true → ∀ j, j < i → X ((j + k) % n) = U j ∧ Y ((j + k) % n) = V j) ∧ Hid (sm = false → rotB X Y U V n k = false)) (fun _ s7 _ => n - (intOf s7).toNat)
      case atStart => exact ⟨0, true, by omega, rfl, rfl, hW, Lib.hid fun _ j hj => absurd hj (by omega), Lib.hid fun h => by cases h⟩
      case round =>
        rename World => wq
        clear hW
        obtain ⟨i, sm, hi, rfl, rfl, hW, HT, HF⟩ := hrel
        cases sm with
        | false =>
          have HR := Lib.hid (HF.out (by first | rfl | trivial))
          by_cases hlt2 : i < n
          · have r1 : (i : Int) < (n : Int) := by omega
            go_wp2_with fail
            go_roundw
            case rel => exact ⟨k + 1, by omega, by go_num, hW, Lib.hid fun j hj => by
              by_cases e : j = k
              · rw [e]; exact HR.out
              · exact HA.out j (by omega)⟩
            case measure => simp [intOf]; omega
          · have r1 : ¬ (i : Int) < (n : Int) := by omega
            go_wp2_with fail
            go_roundw
            case rel => exact ⟨k + 1, by omega, by go_num, hW, Lib.hid fun j hj => by
              by_cases e : j = k
              · rw [e]; exact HR.out
              · exact HA.out j (by omega)⟩
            case measure => simp [intOf]; omega
        | true =>
          by_cases hlt2 : i < n
          case neg =>
            have r1 : ¬ (i : Int) < (n : Int) := by omega
            obtain rfl : i = n := by omega
            have HR := Lib.hid (rotB_t (HT.out (by first | rfl | trivial)))
            go_wp2_with fail
            go_ret
            exact ⟨ret_bool (any_t hlt HR.out).symm, hW⟩
          have r1 : (i : Int) < (n : Int) := by omega
          have r0 : (0 : Int) ≤ (i : Int) := by omega
          obtain ⟨j, hj⟩ : ∃ j, j = (i + k) % n := ⟨_, rfl⟩
          have hjn : j < n := by rw [hj]; exact Nat.mod_lt _ (by omega)
          obtain ⟨t, ht⟩ : ∃ t, t = i + k := ⟨_, rfl⟩
          have e1 : IntKind.i64.wrap ((i : Int) + (k : Int)) = (t : Int) := by rw [IntKind.wrap_i64]; omega
          have t1 : ((t : Int)).tmod (n : Int) = (j : Int) := by rw [tmod_nat, hj, ht]
          have e2 : IntKind.i64.wrap (j : Int) = (j : Int) := by rw [IntKind.wrap_i64]; omega
          have e3 : IntKind.i64.wrap ((i : Int) + 1) = (i : Int) + 1 := by rw [IntKind.wrap_i64]; omega
          have hn0 : ¬ n = 0 := by omega
          have r2 : (j : Int) < (n : Int) := by omega
          have r3 : (0 : Int) ≤ (j : Int) := by omega
          have HJ := Lib.hid hj
          clear hj ht
          obtain ⟨_, x0, x1⟩ := (HP.out.below hW).at rfl hjn
          obtain ⟨_, y0, y1⟩ := (HQ.out.below hW).at rfl hlt2
          have HE : Hid (X ((i + k) % n) = X j ∧ Y ((i + k) % n) = Y j) := Lib.hid (by rw [← HJ.out]; exact ⟨rfl, rfl⟩)
          cases he : (X j == U i && Y j == V i) with
          | true =>
            have hE : ∀ w, (Op.equalIn 10000 32 (.agg #[.int .i64 (X j), .int .i64 (Y j)]) (.agg #[.int .i64 (U i), .int .i64 (V i)])).run Try.prog w = .ok true w := fun w => by rw [eqPtQ, he]
            have HEE := Lib.hid he
            clear he
            go_wp2_with fail
            go_region
            all_goals
              go_wp2_with fail
              go_roundw
              case rel => exact ⟨i + 1, true, by omega, by go_num, rfl, by first | assumption | (repeat (first | (with_reducible exact Below.refl _ _) | (with_reducible refine Ext.drewN ?_ _) | (with_reducible refine Below.drew ?_) | (with_reducible refine Ext.alloc ?_ _) | (with_reducible refine Ext.setCell ?_ (by simp; try omega) _) | (with_reducible refine Ext.trans ?_ (by assumption)) | (with_reducible assumption) | exact Below.refl _ _)), Lib.hid fun _ q hq => by
                by_cases e : q = i
                · rw [e, HE.out.1, HE.out.2]; simpa using HEE.out
                · exact HT.out (by first | rfl | trivial) q (by omega), Lib.hid fun h => by cases h⟩
              case measure => simp [intOf]; omega
          | false =>
            have hE : ∀ w, (Op.equalIn 10000 32 (.agg #[.int .i64 (X j), .int .i64 (Y j)]) (.agg #[.int .i64 (U i), .int .i64 (V i)])).run Try.prog w = .ok false w := fun w => by rw [eqPtQ, he]
            have HR : Hid (rotB X Y U V n k = false) := Lib.hid (rotB_f hlt2 (by rw [HE.out.1, HE.out.2]; intro h; simp [h.1, h.2] at he))
            clear he
            go_wp2_with fail
            go_region
            all_goals
              go_wp2_with fail
              go_roundw
              case rel => exact ⟨i + 1, false, by omega, by go_num, rfl, by first | assumption | (repeat (first | (with_reducible exact Below.refl _ _) | (with_reducible refine Ext.drewN ?_ _) | (with_reducible refine Below.drew ?_) | (with_reducible refine Ext.alloc ?_ _) | (with_reducible refine Ext.setCell ?_ (by simp; try omega) _) | (with_reducible refine Ext.trans ?_ (by assumption)) | (with_reducible assumption) | exact Below.refl _ _)), Lib.hid (fun h => by cases h), Lib.hid fun _ => HR.out⟩
              case measure => simp [intOf]; omega
    · have q1 : ¬ (k : Int) < (n : Int) := by omega
      obtain rfl : k = n := by omega
      go_wp2_with fail
      go_ret
      exact ⟨ret_bool (any_f HA.out).symm, hW⟩
end Go.Proofs.Ytfbalpkjcfdakaa
