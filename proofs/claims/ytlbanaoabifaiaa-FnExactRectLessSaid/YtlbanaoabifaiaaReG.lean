/- Rectangles: the order. No condition. -/
import Derived.Test.YtlbanaoabifaiaaReB
namespace Go.Proofs.Ytlbanaoabifaiaa
open Go.RowKit
set_option linter.unusedVariables false
set_option linter.unusedSimpArgs false
attribute [local go_sem ↓] Go.wp_at_zero Go.wp_at_succ

def cmpI (x y : Int) : Int := if x < y then -1 else if y < x then 1 else 0
theorem isNaN_any (x : Int) (w : World) : Calls Try.prog 47 #[.int .i64 x] w fun e w' => e = .returned (.bool false) ∧ w = w' := by
  go_enter Try.func47, Try.ntmps47
  go_wp2_with fail
  go_ret
  exact ⟨ret_bool (by simp), rfl⟩
theorem compare_any (x y : Int) (w : World) : Calls Try.prog 45 #[.int .i64 x, .int .i64 y] w fun e w' => e = .returned (.int .i64 (cmpI x y)) ∧ Below w.heap.size w w' := by
  have key : x < y ∨ (¬ x < y ∧ y < x) ∨ (¬ x < y ∧ ¬ y < x) := by omega
  rcases key with h1 | ⟨h1, h2⟩ | ⟨h1, h2⟩
  all_goals
    go_enter Try.func45, Try.ntmps45
    go_wp2_with (go_at_call 47; go_call isNaN_any as e w' ⟨rfl, rfl⟩)
    go_ret
    exact ⟨ret_int (by unfold cmpI; (repeat' split) <;> omega), by (repeat (first | (with_reducible exact Below.refl _ _) | (with_reducible refine Ext.drewN ?_ _) | (with_reducible refine Below.drew ?_) | (with_reducible refine Ext.alloc ?_ _) | (with_reducible refine Ext.setCell ?_ (by simp; try omega) _) | (with_reducible refine Ext.trans ?_ (by assumption)) | (with_reducible assumption) | exact Below.refl _ _))⟩

def orV (x y z u : Int) : Int := if x ≠ 0 then x else if y ≠ 0 then y else if z ≠ 0 then z else u
def ltB (a b c d p q r s : Int) : Bool := decide (b < q ∨ (b = q ∧ (a < p ∨ (a = p ∧ (d < s ∨ (d = s ∧ c < r))))))
theorem cmpI_ne {x y : Int} (h : x ≠ y) : cmpI x y ≠ 0 := by
  unfold cmpI; by_cases h1 : x < y
  · rw [if_pos h1]; omega
  · rw [if_neg h1, if_pos (by omega)]; omega
theorem cmpI_eq (x : Int) : cmpI x x = 0 := by unfold cmpI; rw [if_neg (by omega), if_neg (by omega)]
theorem cmpI_lt {x y : Int} : cmpI x y < 0 ↔ x < y := by
  unfold cmpI; by_cases h1 : x < y
  · rw [if_pos h1]; omega
  · rw [if_neg h1]; by_cases h2 : y < x
    · rw [if_pos h2]; omega
    · rw [if_neg h2]; omega
theorem less_lt (a b c d p q r s : Int) : decide (orV (cmpI b q) (cmpI a p) (cmpI d s) (cmpI c r) < 0) = ltB a b c d p q r s := by
  unfold ltB orV
  rw [decide_eq_decide]
  by_cases h1 : b = q
  · subst h1
    rw [cmpI_eq, if_neg (by simp)]
    by_cases h2 : a = p
    · subst h2
      rw [cmpI_eq, if_neg (by simp)]
      by_cases h3 : d = s
      · subst h3
        rw [cmpI_eq, if_neg (by simp), cmpI_lt]; omega
      · rw [if_pos (cmpI_ne h3), cmpI_lt]; omega
    · rw [if_pos (cmpI_ne h2), cmpI_lt]; omega
  · rw [if_pos (cmpI_ne h1), cmpI_lt]; omega

set_option maxHeartbeats 4000000 in
theorem or4_any (g : Nat) (x y z u : Int) (cap : Nat) (w : World) (h0 : w.cell? ⟨g, 0, none⟩ = some (.int .i64 x)) (h1 : w.cell? ⟨g, 1, none⟩ = some (.int .i64 y)) (h2 : w.cell? ⟨g, 2, none⟩ = some (.int .i64 z)) (h3 : w.cell? ⟨g, 3, none⟩ = some (.int .i64 u)) :
    Calls Try.prog 44 #[.slice (some ⟨g, 0, none⟩) 4 cap] w fun e w' => e = .returned (.int .i64 (orV x y z u)) ∧ Below w.heap.size w w' := by
  by_cases k0 : x = 0
  · by_cases k1 : y = 0
    · by_cases k2 : z = 0
      · by_cases k3 : u = 0
        all_goals
          subst k0 k1 k2
          go_enter Try.func44, Try.ntmps44
          go_wp2_with fail
          go_rounds 5
          go_ret
          exact ⟨ret_int (by simp [orV, k3]), by (repeat (first | (with_reducible exact Below.refl _ _) | (with_reducible refine Ext.drewN ?_ _) | (with_reducible refine Below.drew ?_) | (with_reducible refine Ext.alloc ?_ _) | (with_reducible refine Ext.setCell ?_ (by simp; try omega) _) | (with_reducible refine Ext.trans ?_ (by assumption)) | (with_reducible assumption) | exact Below.refl _ _))⟩
      · subst k0 k1
        go_enter Try.func44, Try.ntmps44
        go_wp2_with fail
        go_rounds 3
        go_ret
        exact ⟨ret_int (by simp [orV, k2]), by (repeat (first | (with_reducible exact Below.refl _ _) | (with_reducible refine Ext.drewN ?_ _) | (with_reducible refine Below.drew ?_) | (with_reducible refine Ext.alloc ?_ _) | (with_reducible refine Ext.setCell ?_ (by simp; try omega) _) | (with_reducible refine Ext.trans ?_ (by assumption)) | (with_reducible assumption) | exact Below.refl _ _))⟩
    · subst k0
      go_enter Try.func44, Try.ntmps44
      go_wp2_with fail
      go_rounds 2
      go_ret
      exact ⟨ret_int (by simp [orV, k1]), by (repeat (first | (with_reducible exact Below.refl _ _) | (with_reducible refine Ext.drewN ?_ _) | (with_reducible refine Below.drew ?_) | (with_reducible refine Ext.alloc ?_ _) | (with_reducible refine Ext.setCell ?_ (by simp; try omega) _) | (with_reducible refine Ext.trans ?_ (by assumption)) | (with_reducible assumption) | exact Below.refl _ _))⟩
  · go_enter Try.func44, Try.ntmps44
    go_wp2_with fail
    go_rounds 1
    go_ret
    exact ⟨ret_int (by simp [orV, k0]), by (repeat (first | (with_reducible exact Below.refl _ _) | (with_reducible refine Ext.drewN ?_ _) | (with_reducible refine Below.drew ?_) | (with_reducible refine Ext.alloc ?_ _) | (with_reducible refine Ext.setCell ?_ (by simp; try omega) _) | (with_reducible refine Ext.trans ?_ (by assumption)) | (with_reducible assumption) | exact Below.refl _ _))⟩

set_option maxHeartbeats 8000000 in
theorem specRectLess_any (a b c d p q r s : Int) (w : World) : Calls Try.prog 33 #[.agg #[.int .i64 a, .int .i64 b, .int .i64 c, .int .i64 d], .agg #[.int .i64 p, .int .i64 q, .int .i64 r, .int .i64 s]] w fun e w' => e = .returned (.bool (ltB a b c d p q r s)) ∧ Below w.heap.size w w' := by
  unfold ltB
  have key : (¬ b = q) ∨ (b = q ∧ ¬ a = p) ∨ (b = q ∧ a = p ∧ ¬ d = s) ∨ (b = q ∧ a = p ∧ d = s) := by omega
  rcases key with h1 | ⟨h1, h2⟩ | ⟨h1, h2, h3⟩ | ⟨h1, h2, h3⟩
  all_goals
    go_enter Try.func33, Try.ntmps33
    go_wp2_with fail
    go_ret
    exact ⟨ret_bool (by (rw [Bool.eq_iff_iff]; (try simp only [Bool.and_eq_true, Bool.or_eq_true, Bool.not_eq_true, decide_eq_true_eq, beq_iff_eq, beq_eq_false_iff_ne, ne_eq, decide_eq_false_iff_not, Bool.true_and, Bool.and_true, Bool.false_eq_true, true_and, and_true, false_iff, iff_false, true_iff, iff_true, false_and, and_false]); (try omega))), by (repeat (first | (with_reducible exact Below.refl _ _) | (with_reducible refine Ext.drewN ?_ _) | (with_reducible refine Below.drew ?_) | (with_reducible refine Ext.alloc ?_ _) | (with_reducible refine Ext.setCell ?_ (by simp; try omega) _) | (with_reducible refine Ext.trans ?_ (by assumption)) | (with_reducible assumption) | exact Below.refl _ _))⟩

set_option maxHeartbeats 8000000 in
theorem implRectLess_any (a b c d p q r s : Int) (w : World) : Calls Try.prog 34 #[.agg #[.int .i64 a, .int .i64 b, .int .i64 c, .int .i64 d], .agg #[.int .i64 p, .int .i64 q, .int .i64 r, .int .i64 s]] w fun e w' => e = .returned (.bool (ltB a b c d p q r s)) ∧ Below w.heap.size w w' := by
  rw [← less_lt]
  go_enter Try.func34, Try.ntmps34
  go_wp2_with fail
  go_region_held3 (fun w' => w.heap.size + 1 < w'.heap.size ∧ Below w.heap.size w w' ∧ w'.cell? ⟨w.heap.size, 0, none⟩ = some (.int .i64 a) ∧ w'.cell? ⟨w.heap.size, 1, none⟩ = some (.int .i64 b) ∧ w'.cell? ⟨w.heap.size, 2, none⟩ = some (.int .i64 c) ∧ w'.cell? ⟨w.heap.size, 3, none⟩ = some (.int .i64 d) ∧ w'.cell? ⟨w.heap.size + 1, 0, none⟩ = some (.int .i64 p) ∧ w'.cell? ⟨w.heap.size + 1, 1, none⟩ = some (.int .i64 q) ∧ w'.cell? ⟨w.heap.size + 1, 2, none⟩ = some (.int .i64 r) ∧ w'.cell? ⟨w.heap.size + 1, 3, none⟩ = some (.int .i64 s))
    (first | ((try dsimp only); go_split_ands; (repeat' (with_reducible refine And.intro ?_ ?_)) <;> first | ((repeat (with_reducible refine keepS ?_ (by simp; try omega) _)); (first | (with_reducible assumption) | (with_reducible exact keepC (by assumption) (by assumption)) | (with_reducible exact keepA (by assumption) _) | (with_reducible exact keepR (by assumption) (by omega) _))) | ((try simp only [World.size_alloc, World.size_setCell, World.size_drew]); omega) | (refine Mats.below hM ?_ hM.size; (repeat (first | (with_reducible exact Below.refl _ _) | (with_reducible refine Ext.drewN ?_ _) | (with_reducible refine Below.drew ?_) | (with_reducible refine Ext.alloc ?_ _) | (with_reducible refine Ext.setCell ?_ (by simp; try omega) _) | (with_reducible refine Ext.trans ?_ (by assumption)) | (with_reducible assumption) | exact Below.refl _ _)); done) | ((repeat (first | (with_reducible exact Below.refl _ _) | (with_reducible refine Ext.drewN ?_ _) | (with_reducible refine Below.drew ?_) | (with_reducible refine Ext.alloc ?_ _) | (with_reducible refine Ext.setCell ?_ (by simp; try omega) _) | (with_reducible refine Ext.trans ?_ (by assumption)) | (with_reducible assumption) | exact Below.refl _ _)); done) | (go_keep; done)))
    (first | (go_at_call_of 45 (Value.int .i64 b); refine (compare_any b q _).mono ?_; rintro e v0 ⟨rfl, bv0⟩; obtain ⟨sv0, zv0, cv0, fv0⟩ := bcell bv0; (try simp only [World.size_alloc, World.size_setCell, World.size_drew] at sv0)) | (go_at_call_of 45 (Value.int .i64 a); refine (compare_any a p _).mono ?_; rintro e v1 ⟨rfl, bv1⟩; obtain ⟨sv1, zv1, cv1, fv1⟩ := bcell bv1; (try simp only [World.size_alloc, World.size_setCell, World.size_drew] at sv1)) | (go_at_call_of 45 (Value.int .i64 d); refine (compare_any d s _).mono ?_; rintro e v2 ⟨rfl, bv2⟩; obtain ⟨sv2, zv2, cv2, fv2⟩ := bcell bv2; (try simp only [World.size_alloc, World.size_setCell, World.size_drew] at sv2)) | (go_at_call_of 45 (Value.int .i64 c); refine (compare_any c r _).mono ?_; rintro e v3 ⟨rfl, bv3⟩; obtain ⟨sv3, zv3, cv3, fv3⟩ := bcell bv3; (try simp only [World.size_alloc, World.size_setCell, World.size_drew] at sv3)) | (go_at_call 44; refine (or4_any _ (cmpI b q) (cmpI a p) (cmpI d s) (cmpI c r) _ _ (by simp [go_sem]) (by simp [go_sem]) (by simp [go_sem]) (by simp [go_sem])).mono ?_; rintro e v4 ⟨rfl, bv4⟩; obtain ⟨sv4, zv4, cv4, fv4⟩ := bcell bv4; (try simp only [World.size_alloc, World.size_setCell, World.size_drew] at sv4)))
  all_goals
    go_split_ands
    go_wp2_with fail
    go_ret
    exact ⟨rfl, by (repeat (first | (with_reducible exact Below.refl _ _) | (with_reducible refine Ext.drewN ?_ _) | (with_reducible refine Below.drew ?_) | (with_reducible refine Ext.alloc ?_ _) | (with_reducible refine Ext.setCell ?_ (by simp; try omega) _) | (with_reducible refine Ext.trans ?_ (by assumption)) | (with_reducible assumption) | exact Below.refl _ _))⟩
end Go.Proofs.Ytlbanaoabifaiaa
