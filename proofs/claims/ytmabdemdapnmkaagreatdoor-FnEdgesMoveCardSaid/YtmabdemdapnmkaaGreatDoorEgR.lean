/- The edges of a moved set are the moved edges. No program's run in it. -/
import Derived.Test.YtmabdemdapnmkaaGreatDoorEgW
import Derived.Test.YtmabdemdapnmkaaGreatDoorMgA
import Derived.Test.YtmabdemdapnmkaaGreatDoorEgM
namespace Go.Proofs.YtmabdemdapnmkaaGreatDoor
open Go.RowKit
set_option linter.unusedVariables false
set_option linter.unusedSimpArgs false

theorem MaxI.shift {g g' : Int → Bool} {lo hi : Int} (h : MaxI g lo hi) (k : Int) (hg : ∀ t, g' (t + k) = g t) : MaxI g' (lo + k) (hi + k) := by
  obtain ⟨h1, h2, h3, h4⟩ := h
  refine ⟨by omega, fun t t1 t2 => ?_, ?_, ?_⟩
  · rw [show t = (t - k) + k by omega, hg]; exact h2 _ (by omega) (by omega)
  · rw [show lo + k - 1 = (lo - 1) + k by omega, hg]; exact h3
  · rw [hg]; exact h4
theorem MaxI.flip {g g' : Int → Bool} {lo hi : Int} (h : MaxI g lo hi) (k : Int) (hg : ∀ t, g' (k - 1 - t) = g t) : MaxI g' (k - hi) (k - lo) := by
  obtain ⟨h1, h2, h3, h4⟩ := h
  refine ⟨by omega, fun t t1 t2 => ?_, ?_, ?_⟩
  · rw [show t = k - 1 - (k - 1 - t) by omega, hg]; exact h2 _ (by omega) (by omega)
  · rw [show k - hi - 1 = k - 1 - hi by omega, hg]; exact h4
  · rw [show k - lo = k - 1 - (lo - 1) by omega, hg]; exact h3
theorem has2 {f g : Nat → Bool} {a b a' b' u v u' v' : Int} (h1 : hasB f a b = hasB g u v) (h2 : hasB f a' b' = hasB g u' v') : (hasB f a b && !hasB f a' b') = (hasB g u v && !hasB g u' v') := by rw [h1, h2]
/-- The moved edge. -/
def meE (o x y : Int) (e : R4) : R4 := if 4 ≤ o then ⟨mvX o x y e.c e.d, mvY o x y e.c e.d, mvX o x y e.a e.b, mvY o x y e.a e.b⟩ else ⟨mvX o x y e.a e.b, mvY o x y e.a e.b, mvX o x y e.c e.d, mvY o x y e.c e.d⟩

theorem edges_o0 {f F : Nat → Bool} {x y : Int} (hF : ∀ u v : Int, hasB F (x + u) (y + v) = hasB f u v) (g : R4) : IsEdge F g ↔ ∃ e, IsEdge f e ∧ g = meE 0 x y e := by
  have hF' : ∀ p q u v : Int, p = x + u → q = y + v → hasB F p q = hasB f u v := fun p q u v h1 h2 => by subst h1 h2; exact hF u v
  constructor
  · rintro ⟨o, c, lo, hi, ho, hm, rfl⟩
    rcases o4 ho with rfl | rfl | rfl | rfl
    · exact ⟨mkE 0 (-y + c) (lo + (-x)) (hi + (-x)), ⟨0, -y + c, lo + (-x), hi + (-x), by omega, hm.shift (-x) fun t => has2 (hF' _ _ _ _ (by omega) (by omega)).symm (hF' _ _ _ _ (by omega) (by omega)).symm, rfl⟩, R4_ext (by simp [meE, mkE, mvX, mvY, tX, tY]; try omega) (by simp [meE, mkE, mvX, mvY, tX, tY]; try omega) (by simp [meE, mkE, mvX, mvY, tX, tY]; try omega) (by simp [meE, mkE, mvX, mvY, tX, tY]; try omega)⟩
    · exact ⟨mkE 1 (-y + c) (lo + (-x)) (hi + (-x)), ⟨1, -y + c, lo + (-x), hi + (-x), by omega, hm.shift (-x) fun t => has2 (hF' _ _ _ _ (by omega) (by omega)).symm (hF' _ _ _ _ (by omega) (by omega)).symm, rfl⟩, R4_ext (by simp [meE, mkE, mvX, mvY, tX, tY]; try omega) (by simp [meE, mkE, mvX, mvY, tX, tY]; try omega) (by simp [meE, mkE, mvX, mvY, tX, tY]; try omega) (by simp [meE, mkE, mvX, mvY, tX, tY]; try omega)⟩
    · exact ⟨mkE 2 (-x + c) (lo + (-y)) (hi + (-y)), ⟨2, -x + c, lo + (-y), hi + (-y), by omega, hm.shift (-y) fun t => has2 (hF' _ _ _ _ (by omega) (by omega)).symm (hF' _ _ _ _ (by omega) (by omega)).symm, rfl⟩, R4_ext (by simp [meE, mkE, mvX, mvY, tX, tY]; try omega) (by simp [meE, mkE, mvX, mvY, tX, tY]; try omega) (by simp [meE, mkE, mvX, mvY, tX, tY]; try omega) (by simp [meE, mkE, mvX, mvY, tX, tY]; try omega)⟩
    · exact ⟨mkE 3 (-x + c) (lo + (-y)) (hi + (-y)), ⟨3, -x + c, lo + (-y), hi + (-y), by omega, hm.shift (-y) fun t => has2 (hF' _ _ _ _ (by omega) (by omega)).symm (hF' _ _ _ _ (by omega) (by omega)).symm, rfl⟩, R4_ext (by simp [meE, mkE, mvX, mvY, tX, tY]; try omega) (by simp [meE, mkE, mvX, mvY, tX, tY]; try omega) (by simp [meE, mkE, mvX, mvY, tX, tY]; try omega) (by simp [meE, mkE, mvX, mvY, tX, tY]; try omega)⟩
  · rintro ⟨e, ⟨o, c, lo, hi, ho, hm, rfl⟩, rfl⟩
    rcases o4 ho with rfl | rfl | rfl | rfl
    · exact ⟨0, y + c, lo + (x), hi + (x), by omega, hm.shift (x) fun t => has2 (hF' _ _ _ _ (by omega) (by omega)) (hF' _ _ _ _ (by omega) (by omega)), R4_ext (by simp [meE, mkE, mvX, mvY, tX, tY]; try omega) (by simp [meE, mkE, mvX, mvY, tX, tY]; try omega) (by simp [meE, mkE, mvX, mvY, tX, tY]; try omega) (by simp [meE, mkE, mvX, mvY, tX, tY]; try omega)⟩
    · exact ⟨1, y + c, lo + (x), hi + (x), by omega, hm.shift (x) fun t => has2 (hF' _ _ _ _ (by omega) (by omega)) (hF' _ _ _ _ (by omega) (by omega)), R4_ext (by simp [meE, mkE, mvX, mvY, tX, tY]; try omega) (by simp [meE, mkE, mvX, mvY, tX, tY]; try omega) (by simp [meE, mkE, mvX, mvY, tX, tY]; try omega) (by simp [meE, mkE, mvX, mvY, tX, tY]; try omega)⟩
    · exact ⟨2, x + c, lo + (y), hi + (y), by omega, hm.shift (y) fun t => has2 (hF' _ _ _ _ (by omega) (by omega)) (hF' _ _ _ _ (by omega) (by omega)), R4_ext (by simp [meE, mkE, mvX, mvY, tX, tY]; try omega) (by simp [meE, mkE, mvX, mvY, tX, tY]; try omega) (by simp [meE, mkE, mvX, mvY, tX, tY]; try omega) (by simp [meE, mkE, mvX, mvY, tX, tY]; try omega)⟩
    · exact ⟨3, x + c, lo + (y), hi + (y), by omega, hm.shift (y) fun t => has2 (hF' _ _ _ _ (by omega) (by omega)) (hF' _ _ _ _ (by omega) (by omega)), R4_ext (by simp [meE, mkE, mvX, mvY, tX, tY]; try omega) (by simp [meE, mkE, mvX, mvY, tX, tY]; try omega) (by simp [meE, mkE, mvX, mvY, tX, tY]; try omega) (by simp [meE, mkE, mvX, mvY, tX, tY]; try omega)⟩

theorem edges_o1 {f F : Nat → Bool} {x y : Int} (hF : ∀ u v : Int, hasB F (x - v - 1) (y + u) = hasB f u v) (g : R4) : IsEdge F g ↔ ∃ e, IsEdge f e ∧ g = meE 1 x y e := by
  have hF' : ∀ p q u v : Int, p = x - v - 1 → q = y + u → hasB F p q = hasB f u v := fun p q u v h1 h2 => by subst h1 h2; exact hF u v
  constructor
  · rintro ⟨o, c, lo, hi, ho, hm, rfl⟩
    rcases o4 ho with rfl | rfl | rfl | rfl
    · exact ⟨mkE 3 (-y + c) ((x) - hi) ((x) - lo), ⟨3, -y + c, (x) - hi, (x) - lo, by omega, hm.flip (x) fun t => has2 (hF' _ _ _ _ (by omega) (by omega)).symm (hF' _ _ _ _ (by omega) (by omega)).symm, rfl⟩, R4_ext (by simp [meE, mkE, mvX, mvY, tX, tY]; try omega) (by simp [meE, mkE, mvX, mvY, tX, tY]; try omega) (by simp [meE, mkE, mvX, mvY, tX, tY]; try omega) (by simp [meE, mkE, mvX, mvY, tX, tY]; try omega)⟩
    · exact ⟨mkE 2 (-y + c) ((x) - hi) ((x) - lo), ⟨2, -y + c, (x) - hi, (x) - lo, by omega, hm.flip (x) fun t => has2 (hF' _ _ _ _ (by omega) (by omega)).symm (hF' _ _ _ _ (by omega) (by omega)).symm, rfl⟩, R4_ext (by simp [meE, mkE, mvX, mvY, tX, tY]; try omega) (by simp [meE, mkE, mvX, mvY, tX, tY]; try omega) (by simp [meE, mkE, mvX, mvY, tX, tY]; try omega) (by simp [meE, mkE, mvX, mvY, tX, tY]; try omega)⟩
    · exact ⟨mkE 0 (x - c) (lo + (-y)) (hi + (-y)), ⟨0, x - c, lo + (-y), hi + (-y), by omega, hm.shift (-y) fun t => has2 (hF' _ _ _ _ (by omega) (by omega)).symm (hF' _ _ _ _ (by omega) (by omega)).symm, rfl⟩, R4_ext (by simp [meE, mkE, mvX, mvY, tX, tY]; try omega) (by simp [meE, mkE, mvX, mvY, tX, tY]; try omega) (by simp [meE, mkE, mvX, mvY, tX, tY]; try omega) (by simp [meE, mkE, mvX, mvY, tX, tY]; try omega)⟩
    · exact ⟨mkE 1 (x - c) (lo + (-y)) (hi + (-y)), ⟨1, x - c, lo + (-y), hi + (-y), by omega, hm.shift (-y) fun t => has2 (hF' _ _ _ _ (by omega) (by omega)).symm (hF' _ _ _ _ (by omega) (by omega)).symm, rfl⟩, R4_ext (by simp [meE, mkE, mvX, mvY, tX, tY]; try omega) (by simp [meE, mkE, mvX, mvY, tX, tY]; try omega) (by simp [meE, mkE, mvX, mvY, tX, tY]; try omega) (by simp [meE, mkE, mvX, mvY, tX, tY]; try omega)⟩
  · rintro ⟨e, ⟨o, c, lo, hi, ho, hm, rfl⟩, rfl⟩
    rcases o4 ho with rfl | rfl | rfl | rfl
    · exact ⟨2, x - c, lo + (y), hi + (y), by omega, hm.shift (y) fun t => has2 (hF' _ _ _ _ (by omega) (by omega)) (hF' _ _ _ _ (by omega) (by omega)), R4_ext (by simp [meE, mkE, mvX, mvY, tX, tY]; try omega) (by simp [meE, mkE, mvX, mvY, tX, tY]; try omega) (by simp [meE, mkE, mvX, mvY, tX, tY]; try omega) (by simp [meE, mkE, mvX, mvY, tX, tY]; try omega)⟩
    · exact ⟨3, x - c, lo + (y), hi + (y), by omega, hm.shift (y) fun t => has2 (hF' _ _ _ _ (by omega) (by omega)) (hF' _ _ _ _ (by omega) (by omega)), R4_ext (by simp [meE, mkE, mvX, mvY, tX, tY]; try omega) (by simp [meE, mkE, mvX, mvY, tX, tY]; try omega) (by simp [meE, mkE, mvX, mvY, tX, tY]; try omega) (by simp [meE, mkE, mvX, mvY, tX, tY]; try omega)⟩
    · exact ⟨1, y + c, (x) - hi, (x) - lo, by omega, hm.flip (x) fun t => has2 (hF' _ _ _ _ (by omega) (by omega)) (hF' _ _ _ _ (by omega) (by omega)), R4_ext (by simp [meE, mkE, mvX, mvY, tX, tY]; try omega) (by simp [meE, mkE, mvX, mvY, tX, tY]; try omega) (by simp [meE, mkE, mvX, mvY, tX, tY]; try omega) (by simp [meE, mkE, mvX, mvY, tX, tY]; try omega)⟩
    · exact ⟨0, y + c, (x) - hi, (x) - lo, by omega, hm.flip (x) fun t => has2 (hF' _ _ _ _ (by omega) (by omega)) (hF' _ _ _ _ (by omega) (by omega)), R4_ext (by simp [meE, mkE, mvX, mvY, tX, tY]; try omega) (by simp [meE, mkE, mvX, mvY, tX, tY]; try omega) (by simp [meE, mkE, mvX, mvY, tX, tY]; try omega) (by simp [meE, mkE, mvX, mvY, tX, tY]; try omega)⟩

theorem edges_o2 {f F : Nat → Bool} {x y : Int} (hF : ∀ u v : Int, hasB F (x - u - 1) (y - v - 1) = hasB f u v) (g : R4) : IsEdge F g ↔ ∃ e, IsEdge f e ∧ g = meE 2 x y e := by
  have hF' : ∀ p q u v : Int, p = x - u - 1 → q = y - v - 1 → hasB F p q = hasB f u v := fun p q u v h1 h2 => by subst h1 h2; exact hF u v
  constructor
  · rintro ⟨o, c, lo, hi, ho, hm, rfl⟩
    rcases o4 ho with rfl | rfl | rfl | rfl
    · exact ⟨mkE 1 (y - c) ((x) - hi) ((x) - lo), ⟨1, y - c, (x) - hi, (x) - lo, by omega, hm.flip (x) fun t => has2 (hF' _ _ _ _ (by omega) (by omega)).symm (hF' _ _ _ _ (by omega) (by omega)).symm, rfl⟩, R4_ext (by simp [meE, mkE, mvX, mvY, tX, tY]; try omega) (by simp [meE, mkE, mvX, mvY, tX, tY]; try omega) (by simp [meE, mkE, mvX, mvY, tX, tY]; try omega) (by simp [meE, mkE, mvX, mvY, tX, tY]; try omega)⟩
    · exact ⟨mkE 0 (y - c) ((x) - hi) ((x) - lo), ⟨0, y - c, (x) - hi, (x) - lo, by omega, hm.flip (x) fun t => has2 (hF' _ _ _ _ (by omega) (by omega)).symm (hF' _ _ _ _ (by omega) (by omega)).symm, rfl⟩, R4_ext (by simp [meE, mkE, mvX, mvY, tX, tY]; try omega) (by simp [meE, mkE, mvX, mvY, tX, tY]; try omega) (by simp [meE, mkE, mvX, mvY, tX, tY]; try omega) (by simp [meE, mkE, mvX, mvY, tX, tY]; try omega)⟩
    · exact ⟨mkE 3 (x - c) ((y) - hi) ((y) - lo), ⟨3, x - c, (y) - hi, (y) - lo, by omega, hm.flip (y) fun t => has2 (hF' _ _ _ _ (by omega) (by omega)).symm (hF' _ _ _ _ (by omega) (by omega)).symm, rfl⟩, R4_ext (by simp [meE, mkE, mvX, mvY, tX, tY]; try omega) (by simp [meE, mkE, mvX, mvY, tX, tY]; try omega) (by simp [meE, mkE, mvX, mvY, tX, tY]; try omega) (by simp [meE, mkE, mvX, mvY, tX, tY]; try omega)⟩
    · exact ⟨mkE 2 (x - c) ((y) - hi) ((y) - lo), ⟨2, x - c, (y) - hi, (y) - lo, by omega, hm.flip (y) fun t => has2 (hF' _ _ _ _ (by omega) (by omega)).symm (hF' _ _ _ _ (by omega) (by omega)).symm, rfl⟩, R4_ext (by simp [meE, mkE, mvX, mvY, tX, tY]; try omega) (by simp [meE, mkE, mvX, mvY, tX, tY]; try omega) (by simp [meE, mkE, mvX, mvY, tX, tY]; try omega) (by simp [meE, mkE, mvX, mvY, tX, tY]; try omega)⟩
  · rintro ⟨e, ⟨o, c, lo, hi, ho, hm, rfl⟩, rfl⟩
    rcases o4 ho with rfl | rfl | rfl | rfl
    · exact ⟨1, y - c, (x) - hi, (x) - lo, by omega, hm.flip (x) fun t => has2 (hF' _ _ _ _ (by omega) (by omega)) (hF' _ _ _ _ (by omega) (by omega)), R4_ext (by simp [meE, mkE, mvX, mvY, tX, tY]; try omega) (by simp [meE, mkE, mvX, mvY, tX, tY]; try omega) (by simp [meE, mkE, mvX, mvY, tX, tY]; try omega) (by simp [meE, mkE, mvX, mvY, tX, tY]; try omega)⟩
    · exact ⟨0, y - c, (x) - hi, (x) - lo, by omega, hm.flip (x) fun t => has2 (hF' _ _ _ _ (by omega) (by omega)) (hF' _ _ _ _ (by omega) (by omega)), R4_ext (by simp [meE, mkE, mvX, mvY, tX, tY]; try omega) (by simp [meE, mkE, mvX, mvY, tX, tY]; try omega) (by simp [meE, mkE, mvX, mvY, tX, tY]; try omega) (by simp [meE, mkE, mvX, mvY, tX, tY]; try omega)⟩
    · exact ⟨3, x - c, (y) - hi, (y) - lo, by omega, hm.flip (y) fun t => has2 (hF' _ _ _ _ (by omega) (by omega)) (hF' _ _ _ _ (by omega) (by omega)), R4_ext (by simp [meE, mkE, mvX, mvY, tX, tY]; try omega) (by simp [meE, mkE, mvX, mvY, tX, tY]; try omega) (by simp [meE, mkE, mvX, mvY, tX, tY]; try omega) (by simp [meE, mkE, mvX, mvY, tX, tY]; try omega)⟩
    · exact ⟨2, x - c, (y) - hi, (y) - lo, by omega, hm.flip (y) fun t => has2 (hF' _ _ _ _ (by omega) (by omega)) (hF' _ _ _ _ (by omega) (by omega)), R4_ext (by simp [meE, mkE, mvX, mvY, tX, tY]; try omega) (by simp [meE, mkE, mvX, mvY, tX, tY]; try omega) (by simp [meE, mkE, mvX, mvY, tX, tY]; try omega) (by simp [meE, mkE, mvX, mvY, tX, tY]; try omega)⟩

theorem edges_o3 {f F : Nat → Bool} {x y : Int} (hF : ∀ u v : Int, hasB F (x + v) (y - u - 1) = hasB f u v) (g : R4) : IsEdge F g ↔ ∃ e, IsEdge f e ∧ g = meE 3 x y e := by
  have hF' : ∀ p q u v : Int, p = x + v → q = y - u - 1 → hasB F p q = hasB f u v := fun p q u v h1 h2 => by subst h1 h2; exact hF u v
  constructor
  · rintro ⟨o, c, lo, hi, ho, hm, rfl⟩
    rcases o4 ho with rfl | rfl | rfl | rfl
    · exact ⟨mkE 2 (y - c) (lo + (-x)) (hi + (-x)), ⟨2, y - c, lo + (-x), hi + (-x), by omega, hm.shift (-x) fun t => has2 (hF' _ _ _ _ (by omega) (by omega)).symm (hF' _ _ _ _ (by omega) (by omega)).symm, rfl⟩, R4_ext (by simp [meE, mkE, mvX, mvY, tX, tY]; try omega) (by simp [meE, mkE, mvX, mvY, tX, tY]; try omega) (by simp [meE, mkE, mvX, mvY, tX, tY]; try omega) (by simp [meE, mkE, mvX, mvY, tX, tY]; try omega)⟩
    · exact ⟨mkE 3 (y - c) (lo + (-x)) (hi + (-x)), ⟨3, y - c, lo + (-x), hi + (-x), by omega, hm.shift (-x) fun t => has2 (hF' _ _ _ _ (by omega) (by omega)).symm (hF' _ _ _ _ (by omega) (by omega)).symm, rfl⟩, R4_ext (by simp [meE, mkE, mvX, mvY, tX, tY]; try omega) (by simp [meE, mkE, mvX, mvY, tX, tY]; try omega) (by simp [meE, mkE, mvX, mvY, tX, tY]; try omega) (by simp [meE, mkE, mvX, mvY, tX, tY]; try omega)⟩
    · exact ⟨mkE 1 (-x + c) ((y) - hi) ((y) - lo), ⟨1, -x + c, (y) - hi, (y) - lo, by omega, hm.flip (y) fun t => has2 (hF' _ _ _ _ (by omega) (by omega)).symm (hF' _ _ _ _ (by omega) (by omega)).symm, rfl⟩, R4_ext (by simp [meE, mkE, mvX, mvY, tX, tY]; try omega) (by simp [meE, mkE, mvX, mvY, tX, tY]; try omega) (by simp [meE, mkE, mvX, mvY, tX, tY]; try omega) (by simp [meE, mkE, mvX, mvY, tX, tY]; try omega)⟩
    · exact ⟨mkE 0 (-x + c) ((y) - hi) ((y) - lo), ⟨0, -x + c, (y) - hi, (y) - lo, by omega, hm.flip (y) fun t => has2 (hF' _ _ _ _ (by omega) (by omega)).symm (hF' _ _ _ _ (by omega) (by omega)).symm, rfl⟩, R4_ext (by simp [meE, mkE, mvX, mvY, tX, tY]; try omega) (by simp [meE, mkE, mvX, mvY, tX, tY]; try omega) (by simp [meE, mkE, mvX, mvY, tX, tY]; try omega) (by simp [meE, mkE, mvX, mvY, tX, tY]; try omega)⟩
  · rintro ⟨e, ⟨o, c, lo, hi, ho, hm, rfl⟩, rfl⟩
    rcases o4 ho with rfl | rfl | rfl | rfl
    · exact ⟨3, x + c, (y) - hi, (y) - lo, by omega, hm.flip (y) fun t => has2 (hF' _ _ _ _ (by omega) (by omega)) (hF' _ _ _ _ (by omega) (by omega)), R4_ext (by simp [meE, mkE, mvX, mvY, tX, tY]; try omega) (by simp [meE, mkE, mvX, mvY, tX, tY]; try omega) (by simp [meE, mkE, mvX, mvY, tX, tY]; try omega) (by simp [meE, mkE, mvX, mvY, tX, tY]; try omega)⟩
    · exact ⟨2, x + c, (y) - hi, (y) - lo, by omega, hm.flip (y) fun t => has2 (hF' _ _ _ _ (by omega) (by omega)) (hF' _ _ _ _ (by omega) (by omega)), R4_ext (by simp [meE, mkE, mvX, mvY, tX, tY]; try omega) (by simp [meE, mkE, mvX, mvY, tX, tY]; try omega) (by simp [meE, mkE, mvX, mvY, tX, tY]; try omega) (by simp [meE, mkE, mvX, mvY, tX, tY]; try omega)⟩
    · exact ⟨0, y - c, lo + (x), hi + (x), by omega, hm.shift (x) fun t => has2 (hF' _ _ _ _ (by omega) (by omega)) (hF' _ _ _ _ (by omega) (by omega)), R4_ext (by simp [meE, mkE, mvX, mvY, tX, tY]; try omega) (by simp [meE, mkE, mvX, mvY, tX, tY]; try omega) (by simp [meE, mkE, mvX, mvY, tX, tY]; try omega) (by simp [meE, mkE, mvX, mvY, tX, tY]; try omega)⟩
    · exact ⟨1, y - c, lo + (x), hi + (x), by omega, hm.shift (x) fun t => has2 (hF' _ _ _ _ (by omega) (by omega)) (hF' _ _ _ _ (by omega) (by omega)), R4_ext (by simp [meE, mkE, mvX, mvY, tX, tY]; try omega) (by simp [meE, mkE, mvX, mvY, tX, tY]; try omega) (by simp [meE, mkE, mvX, mvY, tX, tY]; try omega) (by simp [meE, mkE, mvX, mvY, tX, tY]; try omega)⟩

theorem edges_o4 {f F : Nat → Bool} {x y : Int} (hF : ∀ u v : Int, hasB F (x + u) (y - v - 1) = hasB f u v) (g : R4) : IsEdge F g ↔ ∃ e, IsEdge f e ∧ g = meE 4 x y e := by
  have hF' : ∀ p q u v : Int, p = x + u → q = y - v - 1 → hasB F p q = hasB f u v := fun p q u v h1 h2 => by subst h1 h2; exact hF u v
  constructor
  · rintro ⟨o, c, lo, hi, ho, hm, rfl⟩
    rcases o4 ho with rfl | rfl | rfl | rfl
    · exact ⟨mkE 1 (y - c) (lo + (-x)) (hi + (-x)), ⟨1, y - c, lo + (-x), hi + (-x), by omega, hm.shift (-x) fun t => has2 (hF' _ _ _ _ (by omega) (by omega)).symm (hF' _ _ _ _ (by omega) (by omega)).symm, rfl⟩, R4_ext (by simp [meE, mkE, mvX, mvY, tX, tY]; try omega) (by simp [meE, mkE, mvX, mvY, tX, tY]; try omega) (by simp [meE, mkE, mvX, mvY, tX, tY]; try omega) (by simp [meE, mkE, mvX, mvY, tX, tY]; try omega)⟩
    · exact ⟨mkE 0 (y - c) (lo + (-x)) (hi + (-x)), ⟨0, y - c, lo + (-x), hi + (-x), by omega, hm.shift (-x) fun t => has2 (hF' _ _ _ _ (by omega) (by omega)).symm (hF' _ _ _ _ (by omega) (by omega)).symm, rfl⟩, R4_ext (by simp [meE, mkE, mvX, mvY, tX, tY]; try omega) (by simp [meE, mkE, mvX, mvY, tX, tY]; try omega) (by simp [meE, mkE, mvX, mvY, tX, tY]; try omega) (by simp [meE, mkE, mvX, mvY, tX, tY]; try omega)⟩
    · exact ⟨mkE 2 (-x + c) ((y) - hi) ((y) - lo), ⟨2, -x + c, (y) - hi, (y) - lo, by omega, hm.flip (y) fun t => has2 (hF' _ _ _ _ (by omega) (by omega)).symm (hF' _ _ _ _ (by omega) (by omega)).symm, rfl⟩, R4_ext (by simp [meE, mkE, mvX, mvY, tX, tY]; try omega) (by simp [meE, mkE, mvX, mvY, tX, tY]; try omega) (by simp [meE, mkE, mvX, mvY, tX, tY]; try omega) (by simp [meE, mkE, mvX, mvY, tX, tY]; try omega)⟩
    · exact ⟨mkE 3 (-x + c) ((y) - hi) ((y) - lo), ⟨3, -x + c, (y) - hi, (y) - lo, by omega, hm.flip (y) fun t => has2 (hF' _ _ _ _ (by omega) (by omega)).symm (hF' _ _ _ _ (by omega) (by omega)).symm, rfl⟩, R4_ext (by simp [meE, mkE, mvX, mvY, tX, tY]; try omega) (by simp [meE, mkE, mvX, mvY, tX, tY]; try omega) (by simp [meE, mkE, mvX, mvY, tX, tY]; try omega) (by simp [meE, mkE, mvX, mvY, tX, tY]; try omega)⟩
  · rintro ⟨e, ⟨o, c, lo, hi, ho, hm, rfl⟩, rfl⟩
    rcases o4 ho with rfl | rfl | rfl | rfl
    · exact ⟨1, y - c, lo + (x), hi + (x), by omega, hm.shift (x) fun t => has2 (hF' _ _ _ _ (by omega) (by omega)) (hF' _ _ _ _ (by omega) (by omega)), R4_ext (by simp [meE, mkE, mvX, mvY, tX, tY]; try omega) (by simp [meE, mkE, mvX, mvY, tX, tY]; try omega) (by simp [meE, mkE, mvX, mvY, tX, tY]; try omega) (by simp [meE, mkE, mvX, mvY, tX, tY]; try omega)⟩
    · exact ⟨0, y - c, lo + (x), hi + (x), by omega, hm.shift (x) fun t => has2 (hF' _ _ _ _ (by omega) (by omega)) (hF' _ _ _ _ (by omega) (by omega)), R4_ext (by simp [meE, mkE, mvX, mvY, tX, tY]; try omega) (by simp [meE, mkE, mvX, mvY, tX, tY]; try omega) (by simp [meE, mkE, mvX, mvY, tX, tY]; try omega) (by simp [meE, mkE, mvX, mvY, tX, tY]; try omega)⟩
    · exact ⟨2, x + c, (y) - hi, (y) - lo, by omega, hm.flip (y) fun t => has2 (hF' _ _ _ _ (by omega) (by omega)) (hF' _ _ _ _ (by omega) (by omega)), R4_ext (by simp [meE, mkE, mvX, mvY, tX, tY]; try omega) (by simp [meE, mkE, mvX, mvY, tX, tY]; try omega) (by simp [meE, mkE, mvX, mvY, tX, tY]; try omega) (by simp [meE, mkE, mvX, mvY, tX, tY]; try omega)⟩
    · exact ⟨3, x + c, (y) - hi, (y) - lo, by omega, hm.flip (y) fun t => has2 (hF' _ _ _ _ (by omega) (by omega)) (hF' _ _ _ _ (by omega) (by omega)), R4_ext (by simp [meE, mkE, mvX, mvY, tX, tY]; try omega) (by simp [meE, mkE, mvX, mvY, tX, tY]; try omega) (by simp [meE, mkE, mvX, mvY, tX, tY]; try omega) (by simp [meE, mkE, mvX, mvY, tX, tY]; try omega)⟩

theorem edges_o5 {f F : Nat → Bool} {x y : Int} (hF : ∀ u v : Int, hasB F (x + v) (y + u) = hasB f u v) (g : R4) : IsEdge F g ↔ ∃ e, IsEdge f e ∧ g = meE 5 x y e := by
  have hF' : ∀ p q u v : Int, p = x + v → q = y + u → hasB F p q = hasB f u v := fun p q u v h1 h2 => by subst h1 h2; exact hF u v
  constructor
  · rintro ⟨o, c, lo, hi, ho, hm, rfl⟩
    rcases o4 ho with rfl | rfl | rfl | rfl
    · exact ⟨mkE 3 (-y + c) (lo + (-x)) (hi + (-x)), ⟨3, -y + c, lo + (-x), hi + (-x), by omega, hm.shift (-x) fun t => has2 (hF' _ _ _ _ (by omega) (by omega)).symm (hF' _ _ _ _ (by omega) (by omega)).symm, rfl⟩, R4_ext (by simp [meE, mkE, mvX, mvY, tX, tY]; try omega) (by simp [meE, mkE, mvX, mvY, tX, tY]; try omega) (by simp [meE, mkE, mvX, mvY, tX, tY]; try omega) (by simp [meE, mkE, mvX, mvY, tX, tY]; try omega)⟩
    · exact ⟨mkE 2 (-y + c) (lo + (-x)) (hi + (-x)), ⟨2, -y + c, lo + (-x), hi + (-x), by omega, hm.shift (-x) fun t => has2 (hF' _ _ _ _ (by omega) (by omega)).symm (hF' _ _ _ _ (by omega) (by omega)).symm, rfl⟩, R4_ext (by simp [meE, mkE, mvX, mvY, tX, tY]; try omega) (by simp [meE, mkE, mvX, mvY, tX, tY]; try omega) (by simp [meE, mkE, mvX, mvY, tX, tY]; try omega) (by simp [meE, mkE, mvX, mvY, tX, tY]; try omega)⟩
    · exact ⟨mkE 1 (-x + c) (lo + (-y)) (hi + (-y)), ⟨1, -x + c, lo + (-y), hi + (-y), by omega, hm.shift (-y) fun t => has2 (hF' _ _ _ _ (by omega) (by omega)).symm (hF' _ _ _ _ (by omega) (by omega)).symm, rfl⟩, R4_ext (by simp [meE, mkE, mvX, mvY, tX, tY]; try omega) (by simp [meE, mkE, mvX, mvY, tX, tY]; try omega) (by simp [meE, mkE, mvX, mvY, tX, tY]; try omega) (by simp [meE, mkE, mvX, mvY, tX, tY]; try omega)⟩
    · exact ⟨mkE 0 (-x + c) (lo + (-y)) (hi + (-y)), ⟨0, -x + c, lo + (-y), hi + (-y), by omega, hm.shift (-y) fun t => has2 (hF' _ _ _ _ (by omega) (by omega)).symm (hF' _ _ _ _ (by omega) (by omega)).symm, rfl⟩, R4_ext (by simp [meE, mkE, mvX, mvY, tX, tY]; try omega) (by simp [meE, mkE, mvX, mvY, tX, tY]; try omega) (by simp [meE, mkE, mvX, mvY, tX, tY]; try omega) (by simp [meE, mkE, mvX, mvY, tX, tY]; try omega)⟩
  · rintro ⟨e, ⟨o, c, lo, hi, ho, hm, rfl⟩, rfl⟩
    rcases o4 ho with rfl | rfl | rfl | rfl
    · exact ⟨3, x + c, lo + (y), hi + (y), by omega, hm.shift (y) fun t => has2 (hF' _ _ _ _ (by omega) (by omega)) (hF' _ _ _ _ (by omega) (by omega)), R4_ext (by simp [meE, mkE, mvX, mvY, tX, tY]; try omega) (by simp [meE, mkE, mvX, mvY, tX, tY]; try omega) (by simp [meE, mkE, mvX, mvY, tX, tY]; try omega) (by simp [meE, mkE, mvX, mvY, tX, tY]; try omega)⟩
    · exact ⟨2, x + c, lo + (y), hi + (y), by omega, hm.shift (y) fun t => has2 (hF' _ _ _ _ (by omega) (by omega)) (hF' _ _ _ _ (by omega) (by omega)), R4_ext (by simp [meE, mkE, mvX, mvY, tX, tY]; try omega) (by simp [meE, mkE, mvX, mvY, tX, tY]; try omega) (by simp [meE, mkE, mvX, mvY, tX, tY]; try omega) (by simp [meE, mkE, mvX, mvY, tX, tY]; try omega)⟩
    · exact ⟨1, y + c, lo + (x), hi + (x), by omega, hm.shift (x) fun t => has2 (hF' _ _ _ _ (by omega) (by omega)) (hF' _ _ _ _ (by omega) (by omega)), R4_ext (by simp [meE, mkE, mvX, mvY, tX, tY]; try omega) (by simp [meE, mkE, mvX, mvY, tX, tY]; try omega) (by simp [meE, mkE, mvX, mvY, tX, tY]; try omega) (by simp [meE, mkE, mvX, mvY, tX, tY]; try omega)⟩
    · exact ⟨0, y + c, lo + (x), hi + (x), by omega, hm.shift (x) fun t => has2 (hF' _ _ _ _ (by omega) (by omega)) (hF' _ _ _ _ (by omega) (by omega)), R4_ext (by simp [meE, mkE, mvX, mvY, tX, tY]; try omega) (by simp [meE, mkE, mvX, mvY, tX, tY]; try omega) (by simp [meE, mkE, mvX, mvY, tX, tY]; try omega) (by simp [meE, mkE, mvX, mvY, tX, tY]; try omega)⟩

theorem edges_o6 {f F : Nat → Bool} {x y : Int} (hF : ∀ u v : Int, hasB F (x - u - 1) (y + v) = hasB f u v) (g : R4) : IsEdge F g ↔ ∃ e, IsEdge f e ∧ g = meE 6 x y e := by
  have hF' : ∀ p q u v : Int, p = x - u - 1 → q = y + v → hasB F p q = hasB f u v := fun p q u v h1 h2 => by subst h1 h2; exact hF u v
  constructor
  · rintro ⟨o, c, lo, hi, ho, hm, rfl⟩
    rcases o4 ho with rfl | rfl | rfl | rfl
    · exact ⟨mkE 0 (-y + c) ((x) - hi) ((x) - lo), ⟨0, -y + c, (x) - hi, (x) - lo, by omega, hm.flip (x) fun t => has2 (hF' _ _ _ _ (by omega) (by omega)).symm (hF' _ _ _ _ (by omega) (by omega)).symm, rfl⟩, R4_ext (by simp [meE, mkE, mvX, mvY, tX, tY]; try omega) (by simp [meE, mkE, mvX, mvY, tX, tY]; try omega) (by simp [meE, mkE, mvX, mvY, tX, tY]; try omega) (by simp [meE, mkE, mvX, mvY, tX, tY]; try omega)⟩
    · exact ⟨mkE 1 (-y + c) ((x) - hi) ((x) - lo), ⟨1, -y + c, (x) - hi, (x) - lo, by omega, hm.flip (x) fun t => has2 (hF' _ _ _ _ (by omega) (by omega)).symm (hF' _ _ _ _ (by omega) (by omega)).symm, rfl⟩, R4_ext (by simp [meE, mkE, mvX, mvY, tX, tY]; try omega) (by simp [meE, mkE, mvX, mvY, tX, tY]; try omega) (by simp [meE, mkE, mvX, mvY, tX, tY]; try omega) (by simp [meE, mkE, mvX, mvY, tX, tY]; try omega)⟩
    · exact ⟨mkE 3 (x - c) (lo + (-y)) (hi + (-y)), ⟨3, x - c, lo + (-y), hi + (-y), by omega, hm.shift (-y) fun t => has2 (hF' _ _ _ _ (by omega) (by omega)).symm (hF' _ _ _ _ (by omega) (by omega)).symm, rfl⟩, R4_ext (by simp [meE, mkE, mvX, mvY, tX, tY]; try omega) (by simp [meE, mkE, mvX, mvY, tX, tY]; try omega) (by simp [meE, mkE, mvX, mvY, tX, tY]; try omega) (by simp [meE, mkE, mvX, mvY, tX, tY]; try omega)⟩
    · exact ⟨mkE 2 (x - c) (lo + (-y)) (hi + (-y)), ⟨2, x - c, lo + (-y), hi + (-y), by omega, hm.shift (-y) fun t => has2 (hF' _ _ _ _ (by omega) (by omega)).symm (hF' _ _ _ _ (by omega) (by omega)).symm, rfl⟩, R4_ext (by simp [meE, mkE, mvX, mvY, tX, tY]; try omega) (by simp [meE, mkE, mvX, mvY, tX, tY]; try omega) (by simp [meE, mkE, mvX, mvY, tX, tY]; try omega) (by simp [meE, mkE, mvX, mvY, tX, tY]; try omega)⟩
  · rintro ⟨e, ⟨o, c, lo, hi, ho, hm, rfl⟩, rfl⟩
    rcases o4 ho with rfl | rfl | rfl | rfl
    · exact ⟨0, y + c, (x) - hi, (x) - lo, by omega, hm.flip (x) fun t => has2 (hF' _ _ _ _ (by omega) (by omega)) (hF' _ _ _ _ (by omega) (by omega)), R4_ext (by simp [meE, mkE, mvX, mvY, tX, tY]; try omega) (by simp [meE, mkE, mvX, mvY, tX, tY]; try omega) (by simp [meE, mkE, mvX, mvY, tX, tY]; try omega) (by simp [meE, mkE, mvX, mvY, tX, tY]; try omega)⟩
    · exact ⟨1, y + c, (x) - hi, (x) - lo, by omega, hm.flip (x) fun t => has2 (hF' _ _ _ _ (by omega) (by omega)) (hF' _ _ _ _ (by omega) (by omega)), R4_ext (by simp [meE, mkE, mvX, mvY, tX, tY]; try omega) (by simp [meE, mkE, mvX, mvY, tX, tY]; try omega) (by simp [meE, mkE, mvX, mvY, tX, tY]; try omega) (by simp [meE, mkE, mvX, mvY, tX, tY]; try omega)⟩
    · exact ⟨3, x - c, lo + (y), hi + (y), by omega, hm.shift (y) fun t => has2 (hF' _ _ _ _ (by omega) (by omega)) (hF' _ _ _ _ (by omega) (by omega)), R4_ext (by simp [meE, mkE, mvX, mvY, tX, tY]; try omega) (by simp [meE, mkE, mvX, mvY, tX, tY]; try omega) (by simp [meE, mkE, mvX, mvY, tX, tY]; try omega) (by simp [meE, mkE, mvX, mvY, tX, tY]; try omega)⟩
    · exact ⟨2, x - c, lo + (y), hi + (y), by omega, hm.shift (y) fun t => has2 (hF' _ _ _ _ (by omega) (by omega)) (hF' _ _ _ _ (by omega) (by omega)), R4_ext (by simp [meE, mkE, mvX, mvY, tX, tY]; try omega) (by simp [meE, mkE, mvX, mvY, tX, tY]; try omega) (by simp [meE, mkE, mvX, mvY, tX, tY]; try omega) (by simp [meE, mkE, mvX, mvY, tX, tY]; try omega)⟩

theorem edges_o7 {f F : Nat → Bool} {x y : Int} (hF : ∀ u v : Int, hasB F (x - v - 1) (y - u - 1) = hasB f u v) (g : R4) : IsEdge F g ↔ ∃ e, IsEdge f e ∧ g = meE 7 x y e := by
  have hF' : ∀ p q u v : Int, p = x - v - 1 → q = y - u - 1 → hasB F p q = hasB f u v := fun p q u v h1 h2 => by subst h1 h2; exact hF u v
  constructor
  · rintro ⟨o, c, lo, hi, ho, hm, rfl⟩
    rcases o4 ho with rfl | rfl | rfl | rfl
    · exact ⟨mkE 2 (y - c) ((x) - hi) ((x) - lo), ⟨2, y - c, (x) - hi, (x) - lo, by omega, hm.flip (x) fun t => has2 (hF' _ _ _ _ (by omega) (by omega)).symm (hF' _ _ _ _ (by omega) (by omega)).symm, rfl⟩, R4_ext (by simp [meE, mkE, mvX, mvY, tX, tY]; try omega) (by simp [meE, mkE, mvX, mvY, tX, tY]; try omega) (by simp [meE, mkE, mvX, mvY, tX, tY]; try omega) (by simp [meE, mkE, mvX, mvY, tX, tY]; try omega)⟩
    · exact ⟨mkE 3 (y - c) ((x) - hi) ((x) - lo), ⟨3, y - c, (x) - hi, (x) - lo, by omega, hm.flip (x) fun t => has2 (hF' _ _ _ _ (by omega) (by omega)).symm (hF' _ _ _ _ (by omega) (by omega)).symm, rfl⟩, R4_ext (by simp [meE, mkE, mvX, mvY, tX, tY]; try omega) (by simp [meE, mkE, mvX, mvY, tX, tY]; try omega) (by simp [meE, mkE, mvX, mvY, tX, tY]; try omega) (by simp [meE, mkE, mvX, mvY, tX, tY]; try omega)⟩
    · exact ⟨mkE 0 (x - c) ((y) - hi) ((y) - lo), ⟨0, x - c, (y) - hi, (y) - lo, by omega, hm.flip (y) fun t => has2 (hF' _ _ _ _ (by omega) (by omega)).symm (hF' _ _ _ _ (by omega) (by omega)).symm, rfl⟩, R4_ext (by simp [meE, mkE, mvX, mvY, tX, tY]; try omega) (by simp [meE, mkE, mvX, mvY, tX, tY]; try omega) (by simp [meE, mkE, mvX, mvY, tX, tY]; try omega) (by simp [meE, mkE, mvX, mvY, tX, tY]; try omega)⟩
    · exact ⟨mkE 1 (x - c) ((y) - hi) ((y) - lo), ⟨1, x - c, (y) - hi, (y) - lo, by omega, hm.flip (y) fun t => has2 (hF' _ _ _ _ (by omega) (by omega)).symm (hF' _ _ _ _ (by omega) (by omega)).symm, rfl⟩, R4_ext (by simp [meE, mkE, mvX, mvY, tX, tY]; try omega) (by simp [meE, mkE, mvX, mvY, tX, tY]; try omega) (by simp [meE, mkE, mvX, mvY, tX, tY]; try omega) (by simp [meE, mkE, mvX, mvY, tX, tY]; try omega)⟩
  · rintro ⟨e, ⟨o, c, lo, hi, ho, hm, rfl⟩, rfl⟩
    rcases o4 ho with rfl | rfl | rfl | rfl
    · exact ⟨2, x - c, (y) - hi, (y) - lo, by omega, hm.flip (y) fun t => has2 (hF' _ _ _ _ (by omega) (by omega)) (hF' _ _ _ _ (by omega) (by omega)), R4_ext (by simp [meE, mkE, mvX, mvY, tX, tY]; try omega) (by simp [meE, mkE, mvX, mvY, tX, tY]; try omega) (by simp [meE, mkE, mvX, mvY, tX, tY]; try omega) (by simp [meE, mkE, mvX, mvY, tX, tY]; try omega)⟩
    · exact ⟨3, x - c, (y) - hi, (y) - lo, by omega, hm.flip (y) fun t => has2 (hF' _ _ _ _ (by omega) (by omega)) (hF' _ _ _ _ (by omega) (by omega)), R4_ext (by simp [meE, mkE, mvX, mvY, tX, tY]; try omega) (by simp [meE, mkE, mvX, mvY, tX, tY]; try omega) (by simp [meE, mkE, mvX, mvY, tX, tY]; try omega) (by simp [meE, mkE, mvX, mvY, tX, tY]; try omega)⟩
    · exact ⟨0, y - c, (x) - hi, (x) - lo, by omega, hm.flip (x) fun t => has2 (hF' _ _ _ _ (by omega) (by omega)) (hF' _ _ _ _ (by omega) (by omega)), R4_ext (by simp [meE, mkE, mvX, mvY, tX, tY]; try omega) (by simp [meE, mkE, mvX, mvY, tX, tY]; try omega) (by simp [meE, mkE, mvX, mvY, tX, tY]; try omega) (by simp [meE, mkE, mvX, mvY, tX, tY]; try omega)⟩
    · exact ⟨1, y - c, (x) - hi, (x) - lo, by omega, hm.flip (x) fun t => has2 (hF' _ _ _ _ (by omega) (by omega)) (hF' _ _ _ _ (by omega) (by omega)), R4_ext (by simp [meE, mkE, mvX, mvY, tX, tY]; try omega) (by simp [meE, mkE, mvX, mvY, tX, tY]; try omega) (by simp [meE, mkE, mvX, mvY, tX, tY]; try omega) (by simp [meE, mkE, mvX, mvY, tX, tY]; try omega)⟩

end Go.Proofs.YtmabdemdapnmkaaGreatDoor
