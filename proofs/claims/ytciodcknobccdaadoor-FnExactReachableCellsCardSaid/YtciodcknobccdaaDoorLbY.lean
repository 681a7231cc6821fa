/- The program's validations of libraries. Conditions: the cells' parts are in memory; impl.chip holds its value. -/
import Derived.Test.YtciodcknobccdaaDoorLbW
import Derived.Test.YtciodcknobccdaaDoorReB
namespace Go.Proofs.YtciodcknobccdaaDoor
open Go.RowKit
set_option linter.unusedVariables false
set_option linter.unusedSimpArgs false
attribute [local go_sem ↓] Go.wp_at_zero Go.wp_at_succ

/-- How a validation ends. -/
def vE : Bool → Ending
  | true => .returned (.tuple #[])
  | false => nvE
theorem vE_t : vE true = .returned (.tuple #[]) := rfl
theorem vE_f : vE false = nvE := rfl
theorem isLayer_any (n : Int) (w : World) : Calls Tryd.prog 186 #[.int .i64 n] w fun e w' => e = .returned (.bool (inB n 0 7)) ∧ w = w' := by
  go_enter Tryd.func186, Tryd.ntmps186
  go_wp2_with (go_at_call 87; go_call inRange_any as e w' ⟨rfl, rfl⟩)
  go_ret
  exact ⟨rfl, rfl⟩
set_option maxHeartbeats 4000000 in
theorem shpVal_any (l a b c d : Int) (w : World) (hC : ChipW w) : Calls Tryd.prog 175 #[.agg #[.int .i64 l, .int .i64 a, .int .i64 b, .int .i64 c, .int .i64 d]] w fun e w' => e = vE (inB l 0 7 && rvB a b c d) ∧ Below w.heap.size w w' := by
  have HC := Lib.hid hC
  clear hC
  cases h1 : inB l 0 7 with
  | false =>
    rw [Bool.false_and, vE_f]
    go_enter Tryd.func175, Tryd.ntmps175
    go_wp2_with (first | (go_at_call 186; refine (isLayer_any _ _).mono ?_; rintro e v0 ⟨rfl, rfl⟩; rw [h1]) | (go_at_call 156; refine (require_f _).mono ?_; rintro e v2 ⟨rfl, rfl⟩))
    exact ⟨rfl, rfl, by (repeat (first | (with_reducible exact Below.refl _ _) | (with_reducible refine Ext.drewN ?_ _) | (with_reducible refine Below.drew ?_) | (with_reducible refine Ext.alloc ?_ _) | (with_reducible refine Ext.setCell ?_ (by simp; try omega) _) | (with_reducible refine Ext.trans ?_ (by assumption)) | (with_reducible assumption) | exact Below.refl _ _))⟩
  | true =>
    rw [Bool.true_and]
    cases h2 : rvB a b c d with
    | false =>
      rw [vE_f]
      go_enter Tryd.func175, Tryd.ntmps175
      go_wp2_with (first | (go_at_call 186; refine (isLayer_any _ _).mono ?_; rintro e v0 ⟨rfl, rfl⟩; rw [h1]) | (go_at_call 165; refine (implValidRect_any _ _ _ _ _ (HC.out.ext (by (repeat (first | (with_reducible exact Below.refl _ _) | (with_reducible refine Ext.drewN ?_ _) | (with_reducible refine Below.drew ?_) | (with_reducible refine Ext.alloc ?_ _) | (with_reducible refine Ext.setCell ?_ (by simp; try omega) _) | (with_reducible refine Ext.trans ?_ (by assumption)) | (with_reducible assumption) | exact Below.refl _ _))))).mono ?_; rintro e v1 ⟨rfl, bv1⟩; rw [h2]) | (go_at_call 156; refine (require_f _).mono ?_; rintro e v2 ⟨rfl, rfl⟩))
      exact ⟨rfl, rfl, by (repeat (first | (with_reducible exact Below.refl _ _) | (with_reducible refine Ext.drewN ?_ _) | (with_reducible refine Below.drew ?_) | (with_reducible refine Ext.alloc ?_ _) | (with_reducible refine Ext.setCell ?_ (by simp; try omega) _) | (with_reducible refine Ext.trans ?_ (by assumption)) | (with_reducible assumption) | exact Below.refl _ _))⟩
    | true =>
      rw [vE_t]
      go_enter Tryd.func175, Tryd.ntmps175
      go_wp2_with (first | (go_at_call 186; refine (isLayer_any _ _).mono ?_; rintro e v0 ⟨rfl, rfl⟩; rw [h1]) | (go_at_call 165; refine (implValidRect_any _ _ _ _ _ (HC.out.ext (by (repeat (first | (with_reducible exact Below.refl _ _) | (with_reducible refine Ext.drewN ?_ _) | (with_reducible refine Below.drew ?_) | (with_reducible refine Ext.alloc ?_ _) | (with_reducible refine Ext.setCell ?_ (by simp; try omega) _) | (with_reducible refine Ext.trans ?_ (by assumption)) | (with_reducible assumption) | exact Below.refl _ _))))).mono ?_; rintro e v1 ⟨rfl, bv1⟩; rw [h2]) | (go_at_call 156; refine (require_t _).mono ?_; rintro e v2 ⟨rfl, rfl⟩))
      go_end0
      exact ⟨rfl, by (repeat (first | (with_reducible exact Below.refl _ _) | (with_reducible refine Ext.drewN ?_ _) | (with_reducible refine Below.drew ?_) | (with_reducible refine Ext.alloc ?_ _) | (with_reducible refine Ext.setCell ?_ (by simp; try omega) _) | (with_reducible refine Ext.trans ?_ (by assumption)) | (with_reducible assumption) | exact Below.refl _ _))⟩
set_option maxHeartbeats 4000000 in
theorem lblVal_any (l a b : Int) (s : ByteArray) (w : World) (hs : s.size ≤ 1048576) : Calls Tryd.prog 176 #[.agg #[.int .i64 l, .int .i64 a, .int .i64 b, .string s]] w fun e w' => e = vE (inB l 0 7 && (inB a (-40) 39 && inB b (-40) 39) && nmB s) ∧ Below w.heap.size w w' := by
  cases h1 : inB l 0 7 with
  | false =>
    rw [Bool.false_and, Bool.false_and, vE_f]
    go_enter Tryd.func176, Tryd.ntmps176
    go_wp2_with (first | (go_at_call 186; refine (isLayer_any _ _).mono ?_; rintro e v0 ⟨rfl, rfl⟩; rw [h1]) | (go_at_call 156; refine (require_f _).mono ?_; rintro e v2 ⟨rfl, rfl⟩))
    exact ⟨rfl, rfl, by (repeat (first | (with_reducible exact Below.refl _ _) | (with_reducible refine Ext.drewN ?_ _) | (with_reducible refine Below.drew ?_) | (with_reducible refine Ext.alloc ?_ _) | (with_reducible refine Ext.setCell ?_ (by simp; try omega) _) | (with_reducible refine Ext.trans ?_ (by assumption)) | (with_reducible assumption) | exact Below.refl _ _))⟩
  | true =>
    rw [Bool.true_and]
    cases h2 : (inB a (-40) 39 && inB b (-40) 39) with
    | false =>
      rw [Bool.false_and, vE_f]
      go_enter Tryd.func176, Tryd.ntmps176
      go_wp2_with (first | (go_at_call 186; refine (isLayer_any _ _).mono ?_; rintro e v0 ⟨rfl, rfl⟩; rw [h1]) | (go_at_call 187; refine (isUnitCell_any _ _ _).mono ?_; rintro e v1 ⟨rfl, bv1⟩; obtain ⟨sv1, zv1, cv1, fv1⟩ := bcell bv1; (try simp only [World.size_alloc, World.size_setCell, World.size_drew] at sv1); unfold ucB; rw [h2]) | (go_at_call 156; refine (require_f _).mono ?_; rintro e v2 ⟨rfl, rfl⟩))
      exact ⟨rfl, rfl, by (repeat (first | (with_reducible exact Below.refl _ _) | (with_reducible refine Ext.drewN ?_ _) | (with_reducible refine Below.drew ?_) | (with_reducible refine Ext.alloc ?_ _) | (with_reducible refine Ext.setCell ?_ (by simp; try omega) _) | (with_reducible refine Ext.trans ?_ (by assumption)) | (with_reducible assumption) | exact Below.refl _ _))⟩
    | true =>
      rw [Bool.true_and]
      cases h3 : nmB s with
      | false =>
        rw [vE_f]
        go_enter Tryd.func176, Tryd.ntmps176
        go_wp2_with (first | (go_at_call 186; refine (isLayer_any _ _).mono ?_; rintro e v0 ⟨rfl, rfl⟩; rw [h1]) | (go_at_call 187; refine (isUnitCell_any _ _ _).mono ?_; rintro e v1 ⟨rfl, bv1⟩; obtain ⟨sv1, zv1, cv1, fv1⟩ := bcell bv1; (try simp only [World.size_alloc, World.size_setCell, World.size_drew] at sv1); unfold ucB; rw [h2]) | (go_at_call 174; refine (implIsName_any _ _ hs).mono ?_; rintro e v3 ⟨rfl, bv3⟩; rw [h3]) | (go_at_call 156; refine (require_f _).mono ?_; rintro e v2 ⟨rfl, rfl⟩))
        exact ⟨rfl, rfl, by (repeat (first | (with_reducible exact Below.refl _ _) | (with_reducible refine Ext.drewN ?_ _) | (with_reducible refine Below.drew ?_) | (with_reducible refine Ext.alloc ?_ _) | (with_reducible refine Ext.setCell ?_ (by simp; try omega) _) | (with_reducible refine Ext.trans ?_ (by assumption)) | (with_reducible assumption) | exact Below.refl _ _))⟩
      | true =>
        rw [vE_t]
        go_enter Tryd.func176, Tryd.ntmps176
        go_wp2_with (first | (go_at_call 186; refine (isLayer_any _ _).mono ?_; rintro e v0 ⟨rfl, rfl⟩; rw [h1]) | (go_at_call 187; refine (isUnitCell_any _ _ _).mono ?_; rintro e v1 ⟨rfl, bv1⟩; obtain ⟨sv1, zv1, cv1, fv1⟩ := bcell bv1; (try simp only [World.size_alloc, World.size_setCell, World.size_drew] at sv1); unfold ucB; rw [h2]) | (go_at_call 174; refine (implIsName_any _ _ hs).mono ?_; rintro e v3 ⟨rfl, bv3⟩; rw [h3]) | (go_at_call 156; refine (require_t _).mono ?_; rintro e v2 ⟨rfl, rfl⟩))
        go_end0
        exact ⟨rfl, by (repeat (first | (with_reducible exact Below.refl _ _) | (with_reducible refine Ext.drewN ?_ _) | (with_reducible refine Below.drew ?_) | (with_reducible refine Ext.alloc ?_ _) | (with_reducible refine Ext.setCell ?_ (by simp; try omega) _) | (with_reducible refine Ext.trans ?_ (by assumption)) | (with_reducible assumption) | exact Below.refl _ _))⟩
set_option maxRecDepth 100000 in
theorem stpVal_any (m p : Int) (w : World) : Calls Tryd.prog 188 #[.int .i64 m, .int .i64 p] w fun e w' => e = vE (stpB m p) ∧ w = w' := by
  unfold stpB
  cases h1 : inB m 1 4 with
  | false =>
    rw [Bool.false_and, Bool.false_and, vE_f]
    go_enter Tryd.func188, Tryd.ntmps188
    go_wp2_with (first | (go_at_call 87; refine (inRange_any _ _ _ _).mono ?_; rintro e v0 ⟨rfl, rfl⟩; rw [h1]) | (go_at_call 156; refine (require_f _).mono ?_; rintro e v2 ⟨rfl, rfl⟩))
    exact ⟨rfl, rfl, rfl⟩
  | true =>
    rw [Bool.true_and]
    cases h2 : inB p (-80) 80 with
    | false =>
      rw [Bool.false_and, vE_f]
      go_enter Tryd.func188, Tryd.ntmps188
      go_wp2_with (first | (go_at_call 87; refine (inRange_any _ _ _ _).mono ?_; rintro e v0 ⟨rfl, rfl⟩; first | rw [h1] | rw [h2]) | (go_at_call 156; refine (require_f _).mono ?_; rintro e v2 ⟨rfl, rfl⟩))
      exact ⟨rfl, rfl, rfl⟩
    | true =>
      rw [Bool.true_and]
      by_cases h3 : 1 < m
      · rw [decide_eq_true h3, Bool.true_or, vE_t]
        go_enter Tryd.func188, Tryd.ntmps188
        go_wp2_with (first | (go_at_call 87; refine (inRange_any _ _ _ _).mono ?_; rintro e v0 ⟨rfl, rfl⟩; first | rw [h1] | rw [h2]) | (go_at_call 156; refine (require_t _).mono ?_; rintro e v2 ⟨rfl, rfl⟩))
        go_end0
        exact ⟨rfl, rfl⟩
      · rw [decide_eq_false h3, Bool.false_or]
        by_cases h4 : p = 0
        · subst h4
          rw [decide_eq_true rfl, vE_t]
          go_enter Tryd.func188, Tryd.ntmps188
          go_wp2_with (first | (go_at_call 87; refine (inRange_any _ _ _ _).mono ?_; rintro e v0 ⟨rfl, rfl⟩; first | rw [h1] | rw [h2]) | (go_at_call 156; refine (require_t _).mono ?_; rintro e v2 ⟨rfl, rfl⟩))
          go_end0
          exact ⟨rfl, rfl⟩
        · have h5 : (p == 0) = false := beq_eq_false_iff_ne.2 h4
          have h6 : decide (1 < m) = false := decide_eq_false h3
          rw [decide_eq_false h4, vE_f]
          go_enter Tryd.func188, Tryd.ntmps188
          go_wp2_with (first | (go_at_call 87; refine (inRange_any _ _ _ _).mono ?_; rintro e v0 ⟨rfl, rfl⟩; first | rw [h1] | rw [h2]) | (go_at_call 156; first | (refine (require_t _).mono ?_; rintro e v2 ⟨rfl, rfl⟩) | (refine (require_f _).mono ?_; rintro e v2 ⟨rfl, rfl⟩)))
          exact ⟨rfl, rfl, rfl⟩
set_option maxRecDepth 100000 in
set_option maxHeartbeats 4000000 in
theorem insVal_any (s : Ins) (k : Int) (w : World) (hk : -1000 ≤ k ∧ k ≤ 1000) : Calls Tryd.prog 177 #[.agg #[.int .i64 s.c, .int .i64 s.o, .int .i64 s.x, .int .i64 s.y, .int .i64 s.m, .int .i64 s.n, .int .i64 s.p, .int .i64 s.q], .int .i64 k] w fun e w' => e = vE (insB k s) ∧ Below w.heap.size w w' := by
  unfold insB
  obtain ⟨k1, k2⟩ := hk
  cases h1 : inB s.c 0 (k - 1) with
  | false =>
    rw [Bool.false_and, Bool.false_and, vE_f]
    go_enter Tryd.func177, Tryd.ntmps177
    go_wp2_with (first | (go_at_call 87; refine (inRange_any _ _ _ _).mono ?_; rintro e v0 ⟨rfl, rfl⟩; rw [h1]) | (go_at_call 156; refine (require_f _).mono ?_; rintro e v2 ⟨rfl, rfl⟩))
    exact ⟨rfl, rfl, by (repeat (first | (with_reducible exact Below.refl _ _) | (with_reducible refine Ext.drewN ?_ _) | (with_reducible refine Below.drew ?_) | (with_reducible refine Ext.alloc ?_ _) | (with_reducible refine Ext.setCell ?_ (by simp; try omega) _) | (with_reducible refine Ext.trans ?_ (by assumption)) | (with_reducible assumption) | exact Below.refl _ _))⟩
  | true =>
    rw [Bool.true_and]
    cases h2 : vldB s.o s.x s.y with
    | false =>
      rw [Bool.false_and, vE_f]
      go_enter Tryd.func177, Tryd.ntmps177
      go_wp2_with (first | (go_at_call 87; refine (inRange_any _ _ _ _).mono ?_; rintro e v0 ⟨rfl, rfl⟩; rw [h1]) | (go_at_call 55; refine (implValid_any _ _ _ _).mono ?_; rintro e v1 ⟨rfl, bv1⟩; obtain ⟨sv1, zv1, cv1, fv1⟩ := bcell bv1; (try simp only [World.size_alloc, World.size_setCell, World.size_drew] at sv1); rw [h2]) | (go_at_call 156; refine (require_f _).mono ?_; rintro e v2 ⟨rfl, rfl⟩))
      exact ⟨rfl, rfl, by (repeat (first | (with_reducible exact Below.refl _ _) | (with_reducible refine Ext.drewN ?_ _) | (with_reducible refine Below.drew ?_) | (with_reducible refine Ext.alloc ?_ _) | (with_reducible refine Ext.setCell ?_ (by simp; try omega) _) | (with_reducible refine Ext.trans ?_ (by assumption)) | (with_reducible assumption) | exact Below.refl _ _))⟩
    | true =>
      rw [Bool.true_and]
      cases h3 : stpB s.m s.p with
      | false =>
        rw [Bool.false_and, vE_f]
        go_enter Tryd.func177, Tryd.ntmps177
        go_wp2_with (first | (go_at_call 87; refine (inRange_any _ _ _ _).mono ?_; rintro e v0 ⟨rfl, rfl⟩; rw [h1]) | (go_at_call 55; refine (implValid_any _ _ _ _).mono ?_; rintro e v1 ⟨rfl, bv1⟩; obtain ⟨sv1, zv1, cv1, fv1⟩ := bcell bv1; (try simp only [World.size_alloc, World.size_setCell, World.size_drew] at sv1); rw [h2]) | (go_at_call 156; refine (require_t _).mono ?_; rintro e v2 ⟨rfl, rfl⟩) | (go_at_call_of 188 (Value.int .i64 s.m); refine (stpVal_any _ _ _).mono ?_; rintro e v4 ⟨rfl, rfl⟩; rw [h3, vE_f]))
        exact ⟨rfl, rfl, by (repeat (first | (with_reducible exact Below.refl _ _) | (with_reducible refine Ext.drewN ?_ _) | (with_reducible refine Below.drew ?_) | (with_reducible refine Ext.alloc ?_ _) | (with_reducible refine Ext.setCell ?_ (by simp; try omega) _) | (with_reducible refine Ext.trans ?_ (by assumption)) | (with_reducible assumption) | exact Below.refl _ _))⟩
      | true =>
        rw [Bool.true_and]
        cases h4 : stpB s.n s.q with
        | false =>
          rw [vE_f]
          go_enter Tryd.func177, Tryd.ntmps177
          go_wp2_with (first | (go_at_call 87; refine (inRange_any _ _ _ _).mono ?_; rintro e v0 ⟨rfl, rfl⟩; rw [h1]) | (go_at_call 55; refine (implValid_any _ _ _ _).mono ?_; rintro e v1 ⟨rfl, bv1⟩; obtain ⟨sv1, zv1, cv1, fv1⟩ := bcell bv1; (try simp only [World.size_alloc, World.size_setCell, World.size_drew] at sv1); rw [h2]) | (go_at_call 156; refine (require_t _).mono ?_; rintro e v2 ⟨rfl, rfl⟩) | (go_at_call_of 188 (Value.int .i64 s.m); refine (stpVal_any _ _ _).mono ?_; rintro e v4 ⟨rfl, rfl⟩; rw [h3, vE_t]) | (go_at_call_of 188 (Value.int .i64 s.n); refine (stpVal_any _ _ _).mono ?_; rintro e v4 ⟨rfl, rfl⟩; rw [h4, vE_f]))
          exact ⟨rfl, rfl, by (repeat (first | (with_reducible exact Below.refl _ _) | (with_reducible refine Ext.drewN ?_ _) | (with_reducible refine Below.drew ?_) | (with_reducible refine Ext.alloc ?_ _) | (with_reducible refine Ext.setCell ?_ (by simp; try omega) _) | (with_reducible refine Ext.trans ?_ (by assumption)) | (with_reducible assumption) | exact Below.refl _ _))⟩
        | true =>
          rw [vE_t]
          go_enter Tryd.func177, Tryd.ntmps177
          go_wp2_with (first | (go_at_call 87; refine (inRange_any _ _ _ _).mono ?_; rintro e v0 ⟨rfl, rfl⟩; rw [h1]) | (go_at_call 55; refine (implValid_any _ _ _ _).mono ?_; rintro e v1 ⟨rfl, bv1⟩; obtain ⟨sv1, zv1, cv1, fv1⟩ := bcell bv1; (try simp only [World.size_alloc, World.size_setCell, World.size_drew] at sv1); rw [h2]) | (go_at_call 156; refine (require_t _).mono ?_; rintro e v2 ⟨rfl, rfl⟩) | (go_at_call_of 188 (Value.int .i64 s.m); refine (stpVal_any _ _ _).mono ?_; rintro e v4 ⟨rfl, rfl⟩; rw [h3, vE_t]) | (go_at_call_of 188 (Value.int .i64 s.n); refine (stpVal_any _ _ _).mono ?_; rintro e v4 ⟨rfl, rfl⟩; rw [h4, vE_t]))
          go_end0
          exact ⟨rfl, by (repeat (first | (with_reducible exact Below.refl _ _) | (with_reducible refine Ext.drewN ?_ _) | (with_reducible refine Below.drew ?_) | (with_reducible refine Ext.alloc ?_ _) | (with_reducible refine Ext.setCell ?_ (by simp; try omega) _) | (with_reducible refine Ext.trans ?_ (by assumption)) | (with_reducible assumption) | exact Below.refl _ _))⟩
end Go.Proofs.YtciodcknobccdaaDoor
