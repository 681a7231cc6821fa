/- slices.Collect of a region's rectangles: a list in memory of its own. Conditions: the set's rows are in memory; the table of math/bits is in memory. -/
import Derived.Test.YtciodcknobccdaaDoorRiL
import Derived.Test.YtciodcknobccdaaDoorRgN
import Derived.Test.YtciodcknobccdaaDoorRiO
import Derived.RangeFuncBox
namespace Go.Proofs.YtciodcknobccdaaDoor
open Go.RowKit Go.Shelf
set_option linter.unusedVariables false
set_option linter.unusedSimpArgs false
attribute [local go_sem] Oper.semAt_some

theorem own_stepX {A B : World} {base n' n : Nat} {v : Value} {xs : List Value} (h : A.ownsRow base 142 4 v n xs) (hs : StepX n' (fun t => t = 3) A B) : B.ownsRow base 142 4 v n xs := by
  refine ⟨h.1, ?_⟩
  rcases h.2 with h' | ⟨g, cap, cur, e1, e2, e3, e4⟩
  · exact .inl h'
  · exact .inr ⟨g, cap, cur, e1, e2, (hs.cells g cur _ (by decide) e3).trans e3, e4⟩
theorem boxed_stepX {A B : World} {n' k : Nat} {v : Value} (h : Boxed A k 105 v) (hs : StepX n' (fun t => t = 3) A B) : Boxed B k 105 v := (hs.cells k _ _ (by decide) h).trans h
theorem kept_grown {A B : World} {X : Nat → Prop} {N base n : Nat} {v : Value} {xs : List Value} (h : A.ownsRow base 142 4 v n xs) (hg : A.grownBy B v.ownBlock) (hN : N ≤ base) : Kept (Ex X N RectT A) A B :=
  ⟨hg.os, hg.tape, hg.output, hg.size, fun k hk hE => hg.block k hk (fun e => by
    rcases h.2 with ⟨rfl, _⟩ | ⟨g, cap, cur, rfl, h1, h2, _⟩
    · simp [Value.ownBlock] at e
    · obtain rfl : k = g := by simpa [Value.ownBlock] using e
      exact hE (.inr ⟨by omega, cur, _, h2, rfl⟩))⟩

end Go.Proofs.YtciodcknobccdaaDoor
