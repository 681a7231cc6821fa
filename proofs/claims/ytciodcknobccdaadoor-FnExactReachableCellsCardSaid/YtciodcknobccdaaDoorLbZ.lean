/- The program's validation of a cell and of a library. Conditions: the cells' parts are in memory; impl.chip holds its value. -/
import Derived.Test.YtciodcknobccdaaDoorLbY
import Derived.Test.YtciodcknobccdaaDoorLbX
namespace Go.Proofs.YtciodcknobccdaaDoor
open Go.RowKit
set_option linter.unusedVariables false
set_option linter.unusedSimpArgs false
attribute [local go_sem ↓] Go.wp_at_zero Go.wp_at_succ

set_option maxRecDepth 100000 in
set_option maxHeartbeats 8000000 in
theorem celVal_any (c : Cel) (a1 a2 a3 : Option Addr) (k1 k2 k3 : Nat) (k : Int) (w : World) (hCh : ChipW w) (hk : -1000 ≤ k ∧ k ≤ 1000) (hs : c.s.size ≤ 1048576) (ha : c.a.length ≤ 1048576) (hb : c.b.length ≤ 1048576) (hd : c.d.length ≤ 1048576) (hl : ∀ (j : Nat) (s : Lbl), c.b[j]? = some s → s.s.size ≤ 1048576) (hC : CelAt w.heap.size w a1 a2 a3 c) :
    Calls Tryd.prog 157 #[.agg #[.string c.s, .slice a1 c.a.length k1, .slice a2 c.b.length k2, .slice a3 c.d.length k3], .int .i64 k] w fun e w' => e = vE (celB k c) ∧ Below w.heap.size w w' := by
  rw [celB_eq]
  have HC := Lib.hid hC
  have HS := Lib.hid hl
  have HK := Lib.hid hk
  have HCh := Lib.hid hCh
  clear hC hl hk hCh
  cases h0 : nmB c.s with
  | false =>
    simp only [Bool.false_and]
    rw [vE_f]
    go_enter Tryd.func157, Tryd.ntmps157
    go_wp2_with (first | (go_at_call 174; refine (implIsName_any _ _ hs).mono ?_; rintro e v1 ⟨rfl, bv1⟩; obtain ⟨sv1, zv1, cv1, fv1⟩ := bcell bv1; (try simp only [World.size_alloc, World.size_setCell, World.size_drew] at sv1); rw [h0]) | (go_at_call 156; refine (require_f _).mono ?_; rintro e v2 ⟨rfl, rfl⟩))
    exact ⟨rfl, rfl, by (repeat (first | (with_reducible exact Below.refl _ _) | (with_reducible refine Ext.drewN ?_ _) | (with_reducible refine Below.drew ?_) | (with_reducible refine Ext.alloc ?_ _) | (with_reducible refine Ext.setCell ?_ (by simp; try omega) _) | (with_reducible refine Ext.trans ?_ (by assumption)) | (with_reducible assumption) | exact Below.refl _ _))⟩
  | true =>
  by_cases h1 : c.a.length ≤ 24 ∧ c.b.length ≤ 8 ∧ c.d.length ≤ 8
  case neg =>
    have e : (true && decide (c.a.length ≤ 24) && decide (c.b.length ≤ 8) && decide (c.d.length ≤ 8) && c.a.all shpB && c.b.all lblB && c.d.all (insB k)) = false := by
      have e2 : (decide (c.a.length ≤ 24) && decide (c.b.length ≤ 8) && decide (c.d.length ≤ 8)) = false := by
        rw [← Bool.not_eq_true, Bool.and_eq_true, Bool.and_eq_true, decide_eq_true_eq, decide_eq_true_eq, decide_eq_true_eq]
        exact fun h => h1 ⟨h.1.1, h.1.2, h.2⟩
      rw [Bool.true_and, e2]
      simp
    rw [e, vE_f]
    clear e
    have key : (¬ (c.a.length : Int) ≤ 24) ∨ ((c.a.length : Int) ≤ 24 ∧ ¬ (c.b.length : Int) ≤ 8) ∨ ((c.a.length : Int) ≤ 24 ∧ (c.b.length : Int) ≤ 8 ∧ ¬ (c.d.length : Int) ≤ 8) := by omega
    clear h1
    rcases key with q1 | ⟨q1, q2⟩ | ⟨q1, q2, q3⟩
    all_goals
      (try have r1 := decide_eq_false q1)
      (try have r2 := decide_eq_false q2)
      (try have r3 := decide_eq_false q3)
      go_enter Tryd.func157, Tryd.ntmps157
      go_wp2_with (first | (go_at_call 174; refine (implIsName_any _ _ hs).mono ?_; rintro e v1 ⟨rfl, bv1⟩; obtain ⟨sv1, zv1, cv1, fv1⟩ := bcell bv1; (try simp only [World.size_alloc, World.size_setCell, World.size_drew] at sv1); rw [h0]) | (go_at_call 156; first | (refine (require_t _).mono ?_; rintro e v2 ⟨rfl, rfl⟩) | (refine (require_f _).mono ?_; rintro e v2 ⟨rfl, rfl⟩)))
      exact ⟨rfl, rfl, by (repeat (first | (with_reducible exact Below.refl _ _) | (with_reducible refine Ext.drewN ?_ _) | (with_reducible refine Below.drew ?_) | (with_reducible refine Ext.alloc ?_ _) | (with_reducible refine Ext.setCell ?_ (by simp; try omega) _) | (with_reducible refine Ext.trans ?_ (by assumption)) | (with_reducible assumption) | exact Below.refl _ _))⟩
  obtain ⟨h1, h2, h3⟩ := h1
  rw [decide_eq_true h1, decide_eq_true h2, decide_eq_true h3]
  simp only [Bool.true_and]
  have q1 : (c.a.length : Int) ≤ 24 := by omega
  have q2 : (c.b.length : Int) ≤ 8 := by omega
  have q3 : (c.d.length : Int) ≤ 8 := by omega
  have r1 := decide_eq_true q1
  have r2 := decide_eq_true q2
  have r3 := decide_eq_true q3
  go_enter Tryd.func157, Tryd.ntmps157
  go_wp2_with (first | (go_at_call 174; refine (implIsName_any _ _ hs).mono ?_; rintro e v1 ⟨rfl, bv1⟩; obtain ⟨sv1, zv1, cv1, fv1⟩ := bcell bv1; (try simp only [World.size_alloc, World.size_setCell, World.size_drew] at sv1); rw [h0]) | (go_at_call 156; first | (refine (require_t _).mono ?_; rintro e v2 ⟨rfl, rfl⟩) | (refine (require_f _).mono ?_; rintro e v2 ⟨rfl, rfl⟩)))
  go_loopw [34] (fun s4 wr => ∃ i : Nat, i ≤ c.a.length ∧ s4 = .int .i64 (i : Nat) ∧ Hid (alF shpB c.a i = true) ∧ Below w.heap.size w wr ∧ Hid (BoxC w.heap.size wr c a1 a2 a3 k1 k2 k3)) (fun s4 _ => c.a.length - (intOf s4).toNat)
  case atStart => exact ⟨0, by omega, rfl, Lib.hid (alF_zero _ _), by (repeat (first | (with_reducible exact Below.refl _ _) | (with_reducible refine Ext.drewN ?_ _) | (with_reducible refine Below.drew ?_) | (with_reducible refine Ext.alloc ?_ _) | (with_reducible refine Ext.setCell ?_ (by simp; try omega) _) | (with_reducible refine Ext.trans ?_ (by assumption)) | (with_reducible assumption) | exact Below.refl _ _)), Lib.hid ⟨by omega, keepC bv1 (by simp [go_sem]), keepC bv1 (by simp [go_sem]), keepC bv1 (by simp [go_sem]), keepC bv1 (by simp [go_sem])⟩⟩
  case round =>
    obtain ⟨i, hik, rfl, HA, hW, HX⟩ := hrel
    obtain ⟨x0, y0, y1, y2, y3⟩ := HX.out
    by_cases hlt : i < c.a.length
    · obtain ⟨s, hi⟩ := get_some hlt
      obtain ⟨b, off, rfl, hb, c0, c1, c2, c3, c4⟩ := shp_at (HC.out.1.below hW) hi
      have r5 : ((i : Nat) : Int) < (c.a.length : Int) := by omega
      have r0 : (0 : Int) ≤ ((i : Nat) : Int) := by omega
      have HI := Lib.hid hi
      clear hi
      cases hp : shpB s with
      | false =>
        have HN := Lib.hid (all_f HI.out hp)
        unfold shpB at hp
        go_wp2_with (first | (go_at_call 175; refine (shpVal_any _ _ _ _ _ _ (HCh.out.ext (by (repeat (first | (with_reducible exact Below.refl _ _) | (with_reducible refine Ext.drewN ?_ _) | (with_reducible refine Below.drew ?_) | (with_reducible refine Ext.alloc ?_ _) | (with_reducible refine Ext.setCell ?_ (by simp; try omega) _) | (with_reducible refine Ext.trans ?_ (by assumption)) | (with_reducible assumption) | exact Below.refl _ _))))).mono ?_; rintro e v2 ⟨rfl, bv2⟩; rw [hp, vE_f]))
        exact ⟨rfl, by first | rfl | (rw [HN.out]; simp [vE]) | simp [HN.out, vE], by (repeat (first | (with_reducible exact Below.refl _ _) | (with_reducible refine Ext.drewN ?_ _) | (with_reducible refine Below.drew ?_) | (with_reducible refine Ext.alloc ?_ _) | (with_reducible refine Ext.setCell ?_ (by simp; try omega) _) | (with_reducible refine Ext.trans ?_ (by assumption)) | (with_reducible assumption) | exact Below.refl _ _))⟩
      | true =>
        have HA1 : Hid (alF shpB c.a (i + 1) = true) := Lib.hid (by rw [alF_succ HI.out, HA.out, hp]; rfl)
        unfold shpB at hp
        go_wp2_with (first | (go_at_call 175; refine (shpVal_any _ _ _ _ _ _ (HCh.out.ext (by (repeat (first | (with_reducible exact Below.refl _ _) | (with_reducible refine Ext.drewN ?_ _) | (with_reducible refine Below.drew ?_) | (with_reducible refine Ext.alloc ?_ _) | (with_reducible refine Ext.setCell ?_ (by simp; try omega) _) | (with_reducible refine Ext.trans ?_ (by assumption)) | (with_reducible assumption) | exact Below.refl _ _))))).mono ?_; rintro e v2 ⟨rfl, bv2⟩; rw [hp, vE_t]))
        go_roundw
        case rel => exact ⟨i + 1, by omega, by go_num, HA1, by (repeat (first | (with_reducible exact Below.refl _ _) | (with_reducible refine Ext.drewN ?_ _) | (with_reducible refine Below.drew ?_) | (with_reducible refine Ext.alloc ?_ _) | (with_reducible refine Ext.setCell ?_ (by simp; try omega) _) | (with_reducible refine Ext.trans ?_ (by assumption)) | (with_reducible assumption) | exact Below.refl _ _)), Lib.hid (HX.out.below (B := wr.heap.size) (by (repeat (first | (with_reducible exact Below.refl _ _) | (with_reducible refine Ext.drewN ?_ _) | (with_reducible refine Below.drew ?_) | (with_reducible refine Ext.alloc ?_ _) | (with_reducible refine Ext.setCell ?_ (by simp; try omega) _) | (with_reducible refine Ext.trans ?_ (by assumption)) | (with_reducible assumption) | exact Below.refl _ _))) (Nat.le_refl _))⟩
        case measure => simp [intOf]; omega
    · have r5 : ¬ ((i : Nat) : Int) < (c.a.length : Int) := by omega
      have HXA : Hid (c.a.all shpB = true) := Lib.hid (by rw [← alF_full, show c.a.length = i by omega]; exact HA.out)
      clear HA
      go_wp2_with fail
      go_loopw [44] (fun s4 wr => ∃ i : Nat, i ≤ c.b.length ∧ s4 = .int .i64 (i : Nat) ∧ Hid (alF lblB c.b i = true) ∧ Below w.heap.size w wr ∧ Hid (BoxC w.heap.size wr c a1 a2 a3 k1 k2 k3)) (fun s4 _ => c.b.length - (intOf s4).toNat)
      case atStart => exact ⟨0, by omega, rfl, Lib.hid (alF_zero _ _), by (repeat (first | (with_reducible exact Below.refl _ _) | (with_reducible refine Ext.drewN ?_ _) | (with_reducible refine Below.drew ?_) | (with_reducible refine Ext.alloc ?_ _) | (with_reducible refine Ext.setCell ?_ (by simp; try omega) _) | (with_reducible refine Ext.trans ?_ (by assumption)) | (with_reducible assumption) | exact Below.refl _ _)), HX⟩
      case round =>
        clear hW HX x0 y0 y1 y2 y3
        obtain ⟨j, hik, rfl, HA, hW, HX⟩ := hrel
        obtain ⟨x0, y0, y1, y2, y3⟩ := HX.out
        by_cases hlt : j < c.b.length
        · obtain ⟨s, hi⟩ := get_some hlt
          obtain ⟨b, off, rfl, hb, c0, c1, c2, c3⟩ := lbl_at (HC.out.2.1.below hW) hi
          have hs1 := HS.out j s hi
          have r5 : ((j : Nat) : Int) < (c.b.length : Int) := by omega
          have r0 : (0 : Int) ≤ ((j : Nat) : Int) := by omega
          have HI := Lib.hid hi
          clear hi
          cases hp : lblB s with
          | false =>
            have HN := Lib.hid (all_f HI.out hp)
            unfold lblB at hp
            go_wp2_with (first | (go_at_call 176; refine (lblVal_any _ _ _ _ _ hs1).mono ?_; rintro e v2 ⟨rfl, bv2⟩; rw [hp, vE_f]))
            exact ⟨rfl, by first | rfl | (rw [HN.out]; simp [vE]) | simp [HN.out, vE], by (repeat (first | (with_reducible exact Below.refl _ _) | (with_reducible refine Ext.drewN ?_ _) | (with_reducible refine Below.drew ?_) | (with_reducible refine Ext.alloc ?_ _) | (with_reducible refine Ext.setCell ?_ (by simp; try omega) _) | (with_reducible refine Ext.trans ?_ (by assumption)) | (with_reducible assumption) | exact Below.refl _ _))⟩
          | true =>
            have HA1 : Hid (alF lblB c.b (j + 1) = true) := Lib.hid (by rw [alF_succ HI.out, HA.out, hp]; rfl)
            unfold lblB at hp
            go_wp2_with (first | (go_at_call 176; refine (lblVal_any _ _ _ _ _ hs1).mono ?_; rintro e v2 ⟨rfl, bv2⟩; rw [hp, vE_t]))
            go_roundw
            case rel => exact ⟨j + 1, by omega, by go_num, HA1, by (repeat (first | (with_reducible exact Below.refl _ _) | (with_reducible refine Ext.drewN ?_ _) | (with_reducible refine Below.drew ?_) | (with_reducible refine Ext.alloc ?_ _) | (with_reducible refine Ext.setCell ?_ (by simp; try omega) _) | (with_reducible refine Ext.trans ?_ (by assumption)) | (with_reducible assumption) | exact Below.refl _ _)), Lib.hid (HX.out.below (B := wr.heap.size) (by (repeat (first | (with_reducible exact Below.refl _ _) | (with_reducible refine Ext.drewN ?_ _) | (with_reducible refine Below.drew ?_) | (with_reducible refine Ext.alloc ?_ _) | (with_reducible refine Ext.setCell ?_ (by simp; try omega) _) | (with_reducible refine Ext.trans ?_ (by assumption)) | (with_reducible assumption) | exact Below.refl _ _))) (Nat.le_refl _))⟩
            case measure => simp [intOf]; omega
        · have r5 : ¬ ((j : Nat) : Int) < (c.b.length : Int) := by omega
          have HXB : Hid (c.b.all lblB = true) := Lib.hid (by rw [← alF_full, show c.b.length = j by omega]; exact HA.out)
          clear HA
          go_wp2_with fail
          go_loopw [54] (fun s4 wr => ∃ i : Nat, i ≤ c.d.length ∧ s4 = .int .i64 (i : Nat) ∧ Hid (alF (insB k) c.d i = true) ∧ Below w.heap.size w wr ∧ Hid (BoxC w.heap.size wr c a1 a2 a3 k1 k2 k3)) (fun s4 _ => c.d.length - (intOf s4).toNat)
          case atStart => exact ⟨0, by omega, rfl, Lib.hid (alF_zero _ _), by (repeat (first | (with_reducible exact Below.refl _ _) | (with_reducible refine Ext.drewN ?_ _) | (with_reducible refine Below.drew ?_) | (with_reducible refine Ext.alloc ?_ _) | (with_reducible refine Ext.setCell ?_ (by simp; try omega) _) | (with_reducible refine Ext.trans ?_ (by assumption)) | (with_reducible assumption) | exact Below.refl _ _)), HX⟩
          case round =>
            clear hW HX x0 y0 y1 y2 y3
            obtain ⟨t, hik, rfl, HA, hW, HX⟩ := hrel
            obtain ⟨x0, y0, y1, y2, y3⟩ := HX.out
            by_cases hlt : t < c.d.length
            · obtain ⟨s, hi⟩ := get_some hlt
              obtain ⟨b, off, rfl, hb, c0, c1, c2, c3, c4, c5, c6, c7⟩ := ins_at (HC.out.2.2.below hW) hi
              have r5 : ((t : Nat) : Int) < (c.d.length : Int) := by omega
              have r0 : (0 : Int) ≤ ((t : Nat) : Int) := by omega
              have HI := Lib.hid hi
              clear hi
              cases hp : insB k s with
              | false =>
                have HN := Lib.hid (all_f HI.out hp)
                skip
                go_wp2_with (first | (go_at_call 177; refine (insVal_any s k _ HK.out).mono ?_; rintro e v2 ⟨rfl, bv2⟩; rw [hp, vE_f]))
                exact ⟨rfl, by first | rfl | (rw [HN.out]; simp [vE]) | simp [HN.out, vE], by (repeat (first | (with_reducible exact Below.refl _ _) | (with_reducible refine Ext.drewN ?_ _) | (with_reducible refine Below.drew ?_) | (with_reducible refine Ext.alloc ?_ _) | (with_reducible refine Ext.setCell ?_ (by simp; try omega) _) | (with_reducible refine Ext.trans ?_ (by assumption)) | (with_reducible assumption) | exact Below.refl _ _))⟩
              | true =>
                have HA1 : Hid (alF (insB k) c.d (t + 1) = true) := Lib.hid (by rw [alF_succ HI.out, HA.out, hp]; rfl)
                skip
                go_wp2_with (first | (go_at_call 177; refine (insVal_any s k _ HK.out).mono ?_; rintro e v2 ⟨rfl, bv2⟩; rw [hp, vE_t]))
                go_roundw
                case rel => exact ⟨t + 1, by omega, by go_num, HA1, by (repeat (first | (with_reducible exact Below.refl _ _) | (with_reducible refine Ext.drewN ?_ _) | (with_reducible refine Below.drew ?_) | (with_reducible refine Ext.alloc ?_ _) | (with_reducible refine Ext.setCell ?_ (by simp; try omega) _) | (with_reducible refine Ext.trans ?_ (by assumption)) | (with_reducible assumption) | exact Below.refl _ _)), Lib.hid (HX.out.below (B := wr.heap.size) (by (repeat (first | (with_reducible exact Below.refl _ _) | (with_reducible refine Ext.drewN ?_ _) | (with_reducible refine Below.drew ?_) | (with_reducible refine Ext.alloc ?_ _) | (with_reducible refine Ext.setCell ?_ (by simp; try omega) _) | (with_reducible refine Ext.trans ?_ (by assumption)) | (with_reducible assumption) | exact Below.refl _ _))) (Nat.le_refl _))⟩
                case measure => simp [intOf]; omega
            · have r5 : ¬ ((t : Nat) : Int) < (c.d.length : Int) := by omega
              have HXD : Hid (c.d.all (insB k) = true) := Lib.hid (by rw [← alF_full, show c.d.length = t by omega]; exact HA.out)
              go_wp2_with fail
              go_end0
              exact ⟨by rw [HXA.out, HXB.out, HXD.out]; rfl, by (repeat (first | (with_reducible exact Below.refl _ _) | (with_reducible refine Ext.drewN ?_ _) | (with_reducible refine Below.drew ?_) | (with_reducible refine Ext.alloc ?_ _) | (with_reducible refine Ext.setCell ?_ (by simp; try omega) _) | (with_reducible refine Ext.trans ?_ (by assumption)) | (with_reducible assumption) | exact Below.refl _ _))⟩
end Go.Proofs.YtciodcknobccdaaDoor
