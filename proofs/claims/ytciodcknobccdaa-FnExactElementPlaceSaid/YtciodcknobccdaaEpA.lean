/- Places of elements, by the model and by the program. No condition. -/
import Derived.Test.YtciodcknobccdaaLbV
namespace Go.Proofs.Ytciodcknobccdaa
open Go.RowKit
set_option linter.unusedVariables false
set_option linter.unusedSimpArgs false
attribute [local go_sem ↓] Go.wp_at_zero Go.wp_at_succ

/-- Is n a column, or row, of an array with c of them? -/
def posB (n c : Int) : Bool := inB c 1 4 && inB n 0 (c - 1)
theorem posB_t {n c : Int} (h : posB n c = true) : (1 ≤ c ∧ c ≤ 4) ∧ 0 ≤ n ∧ n ≤ 3 := by
  unfold posB at h
  rw [Bool.and_eq_true] at h
  have h1 := inB_t h.1
  have h2 := inB_t h.2
  omega
/-- Is there such an element, and is its place valid? -/
def epB (o x y m n p q k r : Int) : Bool := vldB o x y && (posB k m && posB r n) && vldB o (x + k * p) (y + r * q)
theorem ep_far {x k p : Int} (h1 : 1 ≤ k) (h2 : k ≤ 3) (hx : -80 ≤ x ∧ x ≤ 80) (hp : ¬ (-160 ≤ p ∧ p ≤ 160)) : ¬ (-80 ≤ x + k * p ∧ x + k * p ≤ 80) := by
  have : k = 1 ∨ k = 2 ∨ k = 3 := by omega
  rcases this with rfl | rfl | rfl <;> omega
theorem ep_small {x k p : Int} (h1 : 0 ≤ k) (h2 : k ≤ 3) (hx : -80 ≤ x ∧ x ≤ 80) (hp : k = 0 ∨ (-161 ≤ p ∧ p ≤ 161)) : (-483 ≤ k * p ∧ k * p ≤ 483) := by
  rcases hp with rfl | hp
  · rw [Int.zero_mul]; omega
  · have : k = 0 ∨ k = 1 ∨ k = 2 ∨ k = 3 := by omega
    rcases this with rfl | rfl | rfl | rfl <;> omega
/-- A step that is cut. -/
def minP (p : Int) : Int := if 161 < p then 161 else p
def cutP (p : Int) : Int := if -161 < minP p then minP p else -161
theorem cutP_bd (p : Int) : -161 ≤ cutP p ∧ cutP p ≤ 161 := by unfold cutP minP; split <;> split <;> omega
theorem cutP_eq {p : Int} (h : -160 ≤ p ∧ p ≤ 160) : cutP p = p := by unfold cutP minP; split <;> split <;> omega
theorem inB_n {n lo hi : Int} (h : inB n lo hi = false) : ¬ (lo ≤ n ∧ n ≤ hi) := by
  intro e
  rw [inB_mk e.1 e.2] at h
  cases h
theorem vldB_iff {o x y u v : Int} (h : vldB o x y = true) : vldB o u v = (inB u (-80) 80 && inB v (-80) 80) := by
  unfold vldB at h ⊢
  rw [Bool.and_eq_true, Bool.and_eq_true] at h
  rw [h.1.1, Bool.true_and]
theorem cut_in {x k p : Int} (h1 : 0 ≤ k) (h2 : k ≤ 3) (hx : -80 ≤ x ∧ x ≤ 80) : inB (x + k * cutP p) (-80) 80 = inB (x + k * p) (-80) 80 ∧ (inB (x + k * p) (-80) 80 = true → x + k * cutP p = x + k * p) := by
  by_cases hp : -160 ≤ p ∧ p ≤ 160
  · rw [cutP_eq hp]; exact ⟨rfl, fun _ => rfl⟩
  · by_cases hk : k = 0
    · subst hk; simp
    · have n1 := ep_far (x := x) (k := k) (p := p) (by omega) h2 hx hp
      have n2 : ¬ (-80 ≤ x + k * cutP p ∧ x + k * cutP p ≤ 80) := by
        have : cutP p = -161 ∨ cutP p = 161 := by unfold cutP minP; split <;> split <;> omega
        have : k = 1 ∨ k = 2 ∨ k = 3 := by omega
        rcases this with rfl | rfl | rfl <;> omega
      have f : ∀ z : Int, ¬ (-80 ≤ z ∧ z ≤ 80) → inB z (-80) 80 = false := fun z hz => by
        cases e : inB z (-80) 80
        · rfl
        · exact absurd (inB_t e) hz
      rw [f _ n1, f _ n2]
      exact ⟨rfl, fun h => by cases h⟩
theorem isPosition_any (n c : Int) (w : World) : Calls Try.prog 13 #[.int .i64 n, .int .i64 c] w fun e w' => e = .returned (.bool (posB n c)) ∧ w = w' := by
  cases hc : inB c 1 4 with
  | false =>
    have HN : Hid (posB n c = false) := Lib.hid (by unfold posB; rw [hc]; rfl)
    rw [HN.out]
    go_enter Try.func13, Try.ntmps13
    go_wp2_with (first | (go_at_call 17; refine (inRange_any _ _ _ _).mono ?_; rintro e v0 ⟨rfl, rfl⟩; rw [hc]))
    go_ret
    exact ⟨rfl, rfl⟩
  | true =>
    have hcb := inB_t hc
    have qw : IntKind.i64.wrap (c - 1) = c - 1 := by rw [IntKind.wrap_i64]; omega
    cases hn : inB n 0 (c - 1) with
    | false =>
      have HN : Hid (posB n c = false) := Lib.hid (by unfold posB; rw [hc, hn]; rfl)
      rw [HN.out]
      go_enter Try.func13, Try.ntmps13
      go_wp2_with (first | (go_at_call 17; refine (inRange_any _ _ _ _).mono ?_; rintro e v0 ⟨rfl, rfl⟩; (first | rw [hc] | rw [hn])))
      go_ret
      exact ⟨rfl, rfl⟩
    | true =>
      have HN : Hid (posB n c = true) := Lib.hid (by unfold posB; rw [hc, hn]; rfl)
      rw [HN.out]
      go_enter Try.func13, Try.ntmps13
      go_wp2_with (first | (go_at_call 17; refine (inRange_any _ _ _ _).mono ?_; rintro e v0 ⟨rfl, rfl⟩; (first | rw [hc] | rw [hn])))
      go_ret
      exact ⟨rfl, rfl⟩
/-- The place of an element, where nothing overflows. -/
theorem l10Element_any (c o x y m n p q k r : Int) (w : World) (h1 : 0 ≤ k) (h2 : k ≤ 3) (h3 : 0 ≤ r) (h4 : r ≤ 3) (hx : -80 ≤ x ∧ x ≤ 80) (hy : -80 ≤ y ∧ y ≤ 80) (hp : k = 0 ∨ (-161 ≤ p ∧ p ≤ 161)) (hq : r = 0 ∨ (-161 ≤ q ∧ q ≤ 161)) :
    Calls Try.prog 10 #[.agg #[.int .i64 c, .int .i64 o, .int .i64 x, .int .i64 y, .int .i64 m, .int .i64 n, .int .i64 p, .int .i64 q], .int .i64 k, .int .i64 r] w fun e w' => e = .returned (.agg #[.int .i64 o, .int .i64 (x + k * p), .int .i64 (y + r * q)]) ∧ Below w.heap.size w w' := by
  have s1 := ep_small h1 h2 hx hp
  have s2 := ep_small h3 h4 hy hq
  have e1 : IntKind.i64.wrap (k * p) = k * p := by rw [IntKind.wrap_i64]; omega
  have e2 : IntKind.i64.wrap (r * q) = r * q := by rw [IntKind.wrap_i64]; omega
  have e3 : IntKind.i64.wrap (x + k * p) = x + k * p := by rw [IntKind.wrap_i64]; omega
  have e4 : IntKind.i64.wrap (y + r * q) = y + r * q := by rw [IntKind.wrap_i64]; omega
  go_enter Try.func10, Try.ntmps10
  go_wp2_with fail
  refine bodyPost_ret (v := .agg #[.int .i64 o, .int .i64 (x + k * p), .int .i64 (y + r * q)]) (by simp [*, results, Try.results10, go_sem]) rfl ⟨rfl, ?_⟩
  (repeat (first | (with_reducible exact Below.refl _ _) | (with_reducible refine Ext.drewN ?_ _) | (with_reducible refine Below.drew ?_) | (with_reducible refine Ext.alloc ?_ _) | (with_reducible refine Ext.setCell ?_ (by simp; try omega) _) | (with_reducible refine Ext.trans ?_ (by assumption)) | (with_reducible assumption) | exact Below.refl _ _))
theorem placeAt_any (c o x y m n p q k r : Int) (w : World) (h1 : 0 ≤ k) (h2 : k ≤ 3) (h3 : 0 ≤ r) (h4 : r ≤ 3) (hx : -80 ≤ x ∧ x ≤ 80) (hy : -80 ≤ y ∧ y ≤ 80) :
    Calls Try.prog 14 #[.agg #[.int .i64 c, .int .i64 o, .int .i64 x, .int .i64 y, .int .i64 m, .int .i64 n, .int .i64 p, .int .i64 q], .int .i64 k, .int .i64 r] w fun e w' => e = .returned (.agg #[.int .i64 o, .int .i64 (x + k * cutP p), .int .i64 (y + r * cutP q)]) ∧ Below w.heap.size w w' := by
  have s1 := ep_small h1 h2 hx (.inr (cutP_bd p))
  have s2 := ep_small h3 h4 hy (.inr (cutP_bd q))
  have e1 : IntKind.i64.wrap (k * cutP p) = k * cutP p := by rw [IntKind.wrap_i64]; omega
  have e2 : IntKind.i64.wrap (r * cutP q) = r * cutP q := by rw [IntKind.wrap_i64]; omega
  have e3 : IntKind.i64.wrap (x + k * cutP p) = x + k * cutP p := by rw [IntKind.wrap_i64]; omega
  have e4 : IntKind.i64.wrap (y + r * cutP q) = y + r * cutP q := by rw [IntKind.wrap_i64]; omega
  have m1 : (if -161 < minP p then minP p else -161) = cutP p := rfl
  have m2 : (if -161 < minP q then minP q else -161) = cutP q := rfl
  have m3 : (if 161 < p then 161 else p) = minP p := rfl
  have m4 : (if 161 < q then 161 else q) = minP q := rfl
  go_enter Try.func14, Try.ntmps14
  go_wp2_with fail
  go_region
  all_goals
    go_wp2_with fail
    refine bodyPost_ret (v := .agg #[.int .i64 o, .int .i64 (x + k * cutP p), .int .i64 (y + r * cutP q)]) (by simp [*, results, Try.results14, go_sem]) rfl ⟨rfl, ?_⟩
    (repeat (first | (with_reducible exact Below.refl _ _) | (with_reducible refine Ext.drewN ?_ _) | (with_reducible refine Below.drew ?_) | (with_reducible refine Ext.alloc ?_ _) | (with_reducible refine Ext.setCell ?_ (by simp; try omega) _) | (with_reducible refine Ext.trans ?_ (by assumption)) | (with_reducible assumption) | exact Below.refl _ _))
end Go.Proofs.Ytciodcknobccdaa
