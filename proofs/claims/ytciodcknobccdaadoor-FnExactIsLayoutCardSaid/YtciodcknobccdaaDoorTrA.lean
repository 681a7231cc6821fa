/- Contracts for the transforms' plain functions: ranges, validity, conversions. Conditions: none but those of each theorem. -/
import Derived.Test.YtciodcknobccdaaDoorBase
namespace Go.Proofs.YtciodcknobccdaaDoor
open Go.RowKit
set_option linter.unusedVariables false
set_option linter.unusedSimpArgs false


def vldB (o x y : Int) : Bool := inB o 0 7 && inB x (-80) 80 && inB y (-80) 80

theorem vldB_t {o x y : Int} (h : vldB o x y = true) : (0 ≤ o ∧ o ≤ 7) ∧ (-80 ≤ x ∧ x ≤ 80) ∧ (-80 ≤ y ∧ y ≤ 80) := by
  unfold vldB at h
  simp only [Bool.and_eq_true] at h
  exact ⟨inB_t h.1.1, inB_t h.1.2, inB_t h.2⟩
theorem vldB_mk {o x y : Int} (h1 : 0 ≤ o) (h2 : o ≤ 7) (h3 : -80 ≤ x) (h4 : x ≤ 80) (h5 : -80 ≤ y) (h6 : y ≤ 80) : vldB o x y = true := by
  unfold vldB; rw [inB_mk h1 h2, inB_mk h3 h4, inB_mk h5 h6]; rfl


theorem l01In_any (n lo hi : Int) (w : World) : Calls Tryd.prog 84 #[.int .i64 n, .int .i64 lo, .int .i64 hi] w fun e w' => e = .returned (.bool (inB n lo hi)) ∧ w = w' := by
  by_cases h1 : lo ≤ n
  · by_cases h2 : n ≤ hi
    all_goals
      go_enter Tryd.func84, Tryd.ntmps84
      go_wp2
      go_ret
      exact ⟨ret_bool (by simp [inB, h1, h2]), rfl⟩
  · go_enter Tryd.func84, Tryd.ntmps84
    go_wp2
    go_ret
    exact ⟨ret_bool (inB_f (by omega)).symm, rfl⟩

theorem inRange_any (n lo hi : Int) (w : World) : Calls Tryd.prog 87 #[.int .i64 n, .int .i64 lo, .int .i64 hi] w fun e w' => e = .returned (.bool (inB n lo hi)) ∧ w = w' := by
  by_cases h1 : lo ≤ n
  · by_cases h2 : n ≤ hi
    all_goals
      go_enter Tryd.func87, Tryd.ntmps87
      go_wp2
      go_ret
      exact ⟨ret_bool (by simp [inB, h1, h2]), rfl⟩
  · go_enter Tryd.func87, Tryd.ntmps87
    go_wp2
    go_ret
    exact ⟨ret_bool (inB_f (by omega)).symm, rfl⟩

theorem valid_any (o : Int) (w : World) : Calls Tryd.prog 86 #[.int .i64 o] w fun e w' => e = .returned (.bool (inB o 0 7)) ∧ w = w' := by
  by_cases h1 : 0 ≤ o
  · by_cases h2 : o ≤ 7
    all_goals
      go_enter Tryd.func86, Tryd.ntmps86
      go_wp2
      go_ret
      exact ⟨ret_bool (by simp [inB, h1, h2]; try omega), rfl⟩
  · go_enter Tryd.func86, Tryd.ntmps86
    go_wp2
    go_ret
    exact ⟨ret_bool (inB_f (by omega)).symm, rfl⟩

theorem orientation_any (o x y : Int) (w : World) : Calls Tryd.prog 57 #[.agg #[.int .i64 o, .int .i64 x, .int .i64 y]] w fun e w' => e = .returned (.int .i64 o) ∧ Below w.heap.size w w' := by
  go_enter Tryd.func57, Tryd.ntmps57
  go_wp2
  go_ret
  exact ⟨rfl, (Below.refl _ _).alloc (Nat.le_refl _) _⟩

theorem toTransform_any (o x y : Int) (w : World) : Calls Tryd.prog 23 #[.agg #[.int .i64 o, .int .i64 x, .int .i64 y]] w fun e w' => e = .returned (.agg #[.int .i64 o, .int .i64 x, .int .i64 y]) ∧ Below w.heap.size w w' := by
  go_enter Tryd.func23, Tryd.ntmps23
  go_wp2
  exact bodyPost_ret (v := .agg #[.int .i64 o, .int .i64 x, .int .i64 y]) (by simp [results, Tryd.results23, go_sem]) rfl ⟨rfl, by
    repeat (first | exact Below.refl _ _ | refine Below.alloc ?_ (by simp; try omega) _ | refine Below.setCell ?_ (by simp) _)⟩

theorem specValid_any (o x y : Int) (w : World) : Calls Tryd.prog 52 #[.agg #[.int .i64 o, .int .i64 x, .int .i64 y]] w fun e w' => e = .returned (.bool (vldB o x y)) ∧ Below w.heap.size w w' := by
  by_cases h1 : inB o 0 7 = true
  · by_cases h2 : inB x (-80) 80 = true
    all_goals
      go_enter Tryd.func52, Tryd.ntmps52
      go_wp2_with (go_at_call 84; refine (l01In_any _ _ _ _).mono ?_; rintro e w' ⟨rfl, rfl⟩)
      go_ret
      exact ⟨ret_bool (by simp [vldB, h1, h2]), (Below.refl _ _).alloc (Nat.le_refl _) _⟩
  · go_enter Tryd.func52, Tryd.ntmps52
    go_wp2_with (go_at_call 84; refine (l01In_any _ _ _ _).mono ?_; rintro e w' ⟨rfl, rfl⟩)
    go_ret
    exact ⟨ret_bool (by simp [vldB, h1]), (Below.refl _ _).alloc (Nat.le_refl _) _⟩

theorem implValid_any (o x y : Int) (w : World) : Calls Tryd.prog 55 #[.agg #[.int .i64 o, .int .i64 x, .int .i64 y]] w fun e w' => e = .returned (.bool (vldB o x y)) ∧ Below w.heap.size w w' := by
  by_cases h1 : inB o 0 7 = true
  · by_cases h2 : inB x (-80) 80 = true
    all_goals
      go_enter Tryd.func55, Tryd.ntmps55
      go_wp2_with (first | (go_at_call 87; refine (inRange_any _ _ _ _).mono ?_; rintro e w' ⟨rfl, rfl⟩) | (go_at_call 86; refine (valid_any _ _).mono ?_; rintro e w' ⟨rfl, rfl⟩) | (go_at_call 57; refine (orientation_any _ _ _ _).mono ?_; rintro e w' ⟨rfl, hb⟩; obtain ⟨hs, hz, hc, hf⟩ := bcell hb; (try simp only [World.size_alloc, World.size_setCell, World.size_drew] at hs)))
      go_ret
      exact ⟨ret_bool (by simp [vldB, h1, h2]), ((Below.refl _ _).alloc (Nat.le_refl _) _).trans (hb.mono (by simp))⟩
  · go_enter Tryd.func55, Tryd.ntmps55
    go_wp2_with (first | (go_at_call 87; refine (inRange_any _ _ _ _).mono ?_; rintro e w' ⟨rfl, rfl⟩) | (go_at_call 86; refine (valid_any _ _).mono ?_; rintro e w' ⟨rfl, rfl⟩) | (go_at_call 57; refine (orientation_any _ _ _ _).mono ?_; rintro e w' ⟨rfl, hb⟩; obtain ⟨hs, hz, hc, hf⟩ := bcell hb; (try simp only [World.size_alloc, World.size_setCell, World.size_drew] at hs)))
    go_ret
    exact ⟨ret_bool (by simp [vldB, h1]), ((Below.refl _ _).alloc (Nat.le_refl _) _).trans (hb.mono (by simp))⟩
end Go.Proofs.YtciodcknobccdaaDoor
