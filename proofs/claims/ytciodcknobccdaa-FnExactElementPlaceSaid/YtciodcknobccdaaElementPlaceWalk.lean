/- The walk of FnExactElementPlace. No condition. -/
import Derived.Test.YtciodcknobccdaaEpB
import Derived.Test.YtciodcknobccdaaLbT
import Derived.Test.YtciodcknobccdaaTrC
namespace Go.Proofs.Ytciodcknobccdaa
open Go.RowKit
set_option linter.unusedVariables false
set_option linter.unusedSimpArgs false
attribute [local go_sem ↓] Go.wp_at_zero Go.wp_at_succ

set_option maxRecDepth 100000 in
set_option maxHeartbeats 16000000 in
theorem walkElementPlace (c o x y m n p q k r : Int) (w : World) : Calls Try.prog 3 #[.agg #[.int .i64 c, .int .i64 o, .int .i64 x, .int .i64 y, .int .i64 m, .int .i64 n, .int .i64 p, .int .i64 q], .int .i64 k, .int .i64 r] w fun e w' => e = .returned (.bool true) ∧ Below w.heap.size w w' := by
  obtain ⟨b, hb⟩ : ∃ b, b = epB o x y m n p q k r := ⟨_, rfl⟩
  obtain ⟨u0, h0⟩ : ∃ u : Int, u = if epB o x y m n p q k r = true then o else 0 := ⟨_, rfl⟩
  obtain ⟨u1, h1⟩ : ∃ u : Int, u = if epB o x y m n p q k r = true then x + k * p else 0 := ⟨_, rfl⟩
  obtain ⟨u2, h2⟩ : ∃ u : Int, u = if epB o x y m n p q k r = true then y + r * q else 0 := ⟨_, rfl⟩
  have HV : Hid (epV o x y m n p q k r = .tuple #[.agg #[.int .i64 u0, .int .i64 u1, .int .i64 u2], .bool b]) := Lib.hid (by unfold epV; rw [h0, h1, h2, hb])
  have HE : Hid (eqTB u0 u1 u2 u0 u1 u2 = true) := Lib.hid (by simp [eqTB])
  clear hb h0 h1 h2
  go_enter Try.func3, Try.ntmps3
  go_wp2_with (first | (go_at_call 5; refine (toInstance_any _ _ _ _ _ _ _ _ _).mono ?_; rintro e v1 ⟨rfl, bv1⟩; obtain ⟨sv1, zv1, cv1, fv1⟩ := bcell bv1; (try simp only [World.size_alloc, World.size_setCell, World.size_drew] at sv1); (have jv100 : w.heap.size < v1.heap.size := by omega); (have jv101 : w.heap.size < v1.heap.size + 1 := by omega)) | (go_at_call 4; refine (specElementPlace_any c o x y m n p q k r _).mono ?_; rintro e v2 ⟨rfl, bv2⟩; rw [HV.out]; obtain ⟨sv2, zv2, cv2, fv2⟩ := bcell bv2; (try simp only [World.size_alloc, World.size_setCell, World.size_drew] at sv2); (have jv200 : w.heap.size < v2.heap.size := by omega); (have jv201 : w.heap.size < v2.heap.size + 1 := by omega)) | (go_at_call 6; refine (implElementPlace_any c o x y m n p q k r _).mono ?_; rintro e v3 ⟨rfl, bv3⟩; rw [HV.out]; obtain ⟨sv3, zv3, cv3, fv3⟩ := bcell bv3; (try simp only [World.size_alloc, World.size_setCell, World.size_drew] at sv3); (have k0 : v2.heap.size < v3.heap.size := by omega); (have k1 : v2.heap.size < v3.heap.size + 1 := by omega); (have jv300 : w.heap.size < v3.heap.size := by omega); (have jv301 : w.heap.size < v3.heap.size + 1 := by omega)) | (go_at_call 7; refine (eqTransform_any _ _ _ _ _ _ _).mono ?_; rintro e v4 ⟨rfl, bv4⟩; rw [HE.out]; obtain ⟨sv4, zv4, cv4, fv4⟩ := bcell bv4; (try simp only [World.size_alloc, World.size_setCell, World.size_drew] at sv4)))
  go_ret
  exact ⟨rfl, by (repeat (first | (with_reducible exact Below.refl _ _) | (with_reducible refine Ext.drewN ?_ _) | (with_reducible refine Below.drew ?_) | (with_reducible refine Ext.alloc ?_ _) | (with_reducible refine Ext.setCell ?_ (by simp; try omega) _) | (with_reducible refine Ext.trans ?_ (by assumption)) | (with_reducible assumption) | exact Below.refl _ _))⟩
end Go.Proofs.Ytciodcknobccdaa
