/- The walk of FnExactIsName. No condition. -/
import Derived.Test.YtgamgfnbjfenaaaLbW
namespace Go.Proofs.Ytgamgfnbjfenaaa
open Go.RowKit
set_option linter.unusedVariables false
set_option linter.unusedSimpArgs false

set_option maxRecDepth 100000 in
set_option maxHeartbeats 4000000 in
theorem walkIsName (s : ByteArray) (w : World) : Calls Try.prog 3 #[.string s] w fun e w' => e = .returned (.bool true) ∧ Below w.heap.size w w' := by
  by_cases hs : s.size ≤ 1048576
  · have q0 : ¬ (1048576 : Int) < (s.size : Int) := by omega
    obtain ⟨b, hb⟩ : ∃ b, b = nmB s := ⟨_, rfl⟩
    have HB := Lib.hid hb
    clear hb
    go_enter Try.func3, Try.ntmps3
    go_wp2_with (first | (go_at_call 4; refine (specIsName_any s _ hs).mono ?_; rintro e w1 ⟨rfl, rfl⟩; rw [← HB.out]) | (go_at_call 5; refine (implIsName_any s _ hs).mono ?_; rintro e w2 ⟨rfl, bw2⟩; rw [← HB.out]))
    go_ret
    exact ⟨rfl, by (repeat (first | (with_reducible exact Below.refl _ _) | (with_reducible refine Ext.drewN ?_ _) | (with_reducible refine Below.drew ?_) | (with_reducible refine Ext.alloc ?_ _) | (with_reducible refine Ext.setCell ?_ (by simp; try omega) _) | (with_reducible refine Ext.trans ?_ (by assumption)) | (with_reducible assumption) | exact Below.refl _ _))⟩
  · have q0 : (1048576 : Int) < (s.size : Int) := by omega
    go_enter Try.func3, Try.ntmps3
    go_wp2_with fail
    go_ret
    exact ⟨rfl, Below.refl _ _⟩
end Go.Proofs.Ytgamgfnbjfenaaa
