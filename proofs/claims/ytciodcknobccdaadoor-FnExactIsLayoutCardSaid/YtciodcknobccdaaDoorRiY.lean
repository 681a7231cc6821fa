/- The program's RegionOf. Conditions: the elements' cells are in memory; the tables are in memory. -/
import Derived.Test.YtciodcknobccdaaDoorRiX
import Derived.Test.YtciodcknobccdaaDoorRiP
namespace Go.Proofs.YtciodcknobccdaaDoor
open Go.RowKit Go.Shelf
set_option linter.unusedVariables false
set_option linter.unusedSimpArgs false
attribute [local go_sem] Oper.semAt_some

theorem ownsL_own {w : World} {B : Nat} {v : Value} {l : List R4} (h : w.ownsRow B 142 4 v l.length (recCells l)) : ∃ a c, v = .slice a l.length c ∧ OwnsL B w a l := by
  have hh := h
  rcases h.2 with ⟨rfl, h0⟩ | ⟨g, cap, cur, rfl, h1, h2, h3⟩
  · have hl : l = [] := List.eq_nil_of_length_eq_zero h0
    subst hl
    exact ⟨none, 0, rfl, .inl rfl⟩
  · have hr := rec_own hh
    refine ⟨_, cap, rfl, .inr ⟨g, rfl, h1, hr.2.1, fun k hk => ?_⟩⟩
    obtain ⟨c0, c1, c2, c3⟩ := hr.2.2 k _ (getD_get hk)
    exact ⟨⟨c0, c1, c2, c3⟩, frozen_of_row _ _ _ _ _ h2, frozen_of_row _ _ _ _ _ h2, frozen_of_row _ _ _ _ _ h2, frozen_of_row _ _ _ _ _ h2⟩
theorem okV_N (P Q R S : Nat → Int) (n : Nat) : okV P Q R S n = okN P Q R S n := rfl

end Go.Proofs.YtciodcknobccdaaDoor
