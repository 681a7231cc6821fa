/- The model's sides: whether a side is there, the edge of which it is part, the order. Condition: the flags are in memory. -/
import Derived.Test.YtmabdemdapnmkaaGreatDoorEgA
import Derived.Test.YtmabdemdapnmkaaGreatDoorQC
namespace Go.Proofs.YtmabdemdapnmkaaGreatDoor
open Go.RowKit
set_option linter.unusedVariables false
set_option linter.unusedSimpArgs false
attribute [local go_sem ↓] Go.wp_at_zero Go.wp_at_succ

/-- An edge as a value. -/
abbrev eV (e : R4) : Value := .agg #[.int .i64 e.a, .int .i64 e.b, .int .i64 e.c, .int .i64 e.d]
def dX (o : Nat) : Int := match o with | 0 => 1 | 1 => -1 | _ => 0
def dY (o : Nat) : Int := match o with | 0 => 0 | 1 => 0 | 2 => 1 | _ => -1
/-- The side that begins at a point, in a direction. -/
def sB (f : Nat → Bool) (o : Nat) (x y : Int) : Bool :=
  match o with
  | 0 => gS f 0 y x
  | 1 => gS f 1 y (x - 1)
  | 2 => gS f 2 x y
  | _ => gS f 3 x (y - 1)

set_option maxHeartbeats 2000000 in
theorem l06Is_any (g c : Nat) (f : Nat → Bool) (o : Nat) (ho : o < 4) (x y : Int) (w : World) (hB : BitsIs w g f) (hx : -1000 ≤ x ∧ x ≤ 1000) (hy : -1000 ≤ y ∧ y ≤ 1000) :
    Calls Tryz.prog 108 #[.slice (some ⟨g, 0, none⟩) 6400 c, .int .i64 x, .int .i64 y, .int .i64 (dX o), .int .i64 (dY o)] w fun e w' => e = .returned (.bool (sB f o x y)) ∧ w = w' := by
  obtain ⟨x1, x2⟩ := hx
  obtain ⟨y1, y2⟩ := hy
  have e1 : IntKind.i64.wrap (x - 1) = x - 1 := by rw [IntKind.wrap_i64]; omega
  have e2 : IntKind.i64.wrap (y - 1) = y - 1 := by rw [IntKind.wrap_i64]; omega
  have HB := Lib.hid hB
  clear hB
  rcases o4 ho with rfl | rfl | rfl | rfl
  · have hv : sB f 0 x y = (hasB f x y && !hasB f x (y - 1)) := rfl
    rw [hv]
    cases hp : hasB f x y
    all_goals
      cases hq : hasB f x (y - 1)
      all_goals
        go_enter Tryz.func108, Tryz.ntmps108
        go_wp2_with (go_at_call 102; refine (l03Has_any g c f _ _ _ HB.out).mono ?_; rintro e w1 ⟨rfl, rfl⟩; first | rw [hp] | rw [hq])
        go_ret
        exact ⟨ret_bool (by simp), rfl⟩
  · have hv : sB f 1 x y = (hasB f (x - 1) (y - 1) && !hasB f (x - 1) y) := rfl
    rw [hv]
    cases hp : hasB f (x - 1) (y - 1)
    all_goals
      cases hq : hasB f (x - 1) y
      all_goals
        go_enter Tryz.func108, Tryz.ntmps108
        go_wp2_with (go_at_call 102; refine (l03Has_any g c f _ _ _ HB.out).mono ?_; rintro e w1 ⟨rfl, rfl⟩; first | rw [hp] | rw [hq])
        go_ret
        exact ⟨ret_bool (by simp), rfl⟩
  · have hv : sB f 2 x y = (hasB f (x - 1) y && !hasB f x y) := rfl
    rw [hv]
    cases hp : hasB f (x - 1) y
    all_goals
      cases hq : hasB f x y
      all_goals
        go_enter Tryz.func108, Tryz.ntmps108
        go_wp2_with (go_at_call 102; refine (l03Has_any g c f _ _ _ HB.out).mono ?_; rintro e w1 ⟨rfl, rfl⟩; first | rw [hp] | rw [hq])
        go_ret
        exact ⟨ret_bool (by simp), rfl⟩
  · have hv : sB f 3 x y = (hasB f x (y - 1) && !hasB f (x - 1) (y - 1)) := rfl
    rw [hv]
    cases hp : hasB f x (y - 1)
    all_goals
      cases hq : hasB f (x - 1) (y - 1)
      all_goals
        go_enter Tryz.func108, Tryz.ntmps108
        go_wp2_with (go_at_call 102; refine (l03Has_any g c f _ _ _ HB.out).mono ?_; rintro e w1 ⟨rfl, rfl⟩; first | rw [hp] | rw [hq])
        go_ret
        exact ⟨ret_bool (by simp), rfl⟩

theorem l06Less_any (e g : R4) (w : World) :
    Calls Tryz.prog 142 #[eV e, eV g] w fun r w' => r = .returned (.bool (decide (ltE e g))) ∧ Below w.heap.size w w' := by
  by_cases h1 : e.b = g.b
  · by_cases h2 : e.a = g.a
    · by_cases h3 : e.d = g.d
      · go_enter Tryz.func142, Tryz.ntmps142
        go_wp2_with fail
        go_ret
        exact ⟨ret_bool (by rw [decide_eq_decide]; unfold ltE; omega), by (repeat (first | (with_reducible exact Below.refl _ _) | (with_reducible refine Ext.drewN ?_ _) | (with_reducible refine Below.drew ?_) | (with_reducible refine Ext.alloc ?_ _) | (with_reducible refine Ext.setCell ?_ (by simp; try omega) _) | (with_reducible refine Ext.trans ?_ (by assumption)) | (with_reducible assumption) | exact Below.refl _ _))⟩
      · go_enter Tryz.func142, Tryz.ntmps142
        go_wp2_with fail
        go_ret
        exact ⟨ret_bool (by rw [decide_eq_decide]; unfold ltE; omega), by (repeat (first | (with_reducible exact Below.refl _ _) | (with_reducible refine Ext.drewN ?_ _) | (with_reducible refine Below.drew ?_) | (with_reducible refine Ext.alloc ?_ _) | (with_reducible refine Ext.setCell ?_ (by simp; try omega) _) | (with_reducible refine Ext.trans ?_ (by assumption)) | (with_reducible assumption) | exact Below.refl _ _))⟩
    · go_enter Tryz.func142, Tryz.ntmps142
      go_wp2_with fail
      go_ret
      exact ⟨ret_bool (by rw [decide_eq_decide]; unfold ltE; omega), by (repeat (first | (with_reducible exact Below.refl _ _) | (with_reducible refine Ext.drewN ?_ _) | (with_reducible refine Below.drew ?_) | (with_reducible refine Ext.alloc ?_ _) | (with_reducible refine Ext.setCell ?_ (by simp; try omega) _) | (with_reducible refine Ext.trans ?_ (by assumption)) | (with_reducible assumption) | exact Below.refl _ _))⟩
  · go_enter Tryz.func142, Tryz.ntmps142
    go_wp2_with fail
    go_ret
    exact ⟨ret_bool (by rw [decide_eq_decide]; unfold ltE; omega), by (repeat (first | (with_reducible exact Below.refl _ _) | (with_reducible refine Ext.drewN ?_ _) | (with_reducible refine Below.drew ?_) | (with_reducible refine Ext.alloc ?_ _) | (with_reducible refine Ext.setCell ?_ (by simp; try omega) _) | (with_reducible refine Ext.trans ?_ (by assumption)) | (with_reducible assumption) | exact Below.refl _ _))⟩
end Go.Proofs.YtmabdemdapnmkaaGreatDoor
