/- The model's BoundaryEdges. Conditions: the rectangles' cells are in memory. -/
import Derived.Test.YtmabdemdapnmkaaGreatDoorEgF
import Derived.Test.YtmabdemdapnmkaaGreatDoorEgW
namespace Go.Proofs.YtmabdemdapnmkaaGreatDoor
open Go.RowKit Go.Shelf
set_option linter.unusedVariables false
set_option linter.unusedSimpArgs false
attribute [local go_sem ↓] Go.wp_at_zero Go.wp_at_succ

theorem specBoundaryEdges_all (m : Option Addr) (n cap : Nat) (P Q R S : Nat → Int) (w : World) (hn : n ≤ 1048576) (hR : RectsIs w.heap.size w m n P Q R S) :
    Calls Tryz.prog 22 #[.slice m n cap] w fun e w' => LRes (beL P Q R S n) e w' ∧ Below w.heap.size w w' := by
  have HR := Lib.hid hR
  clear hR
  cases hok : okR P Q R S n with
  | false =>
    have e0 : beL P Q R S n = [] := by unfold beL; rw [if_neg (by simp [hok])]
    rw [e0]
    clear e0
    go_enter Tryz.func22, Tryz.ntmps22
    go_wp2_with fail
    refine (l03Ok_any m n cap P Q R S _ hn HR.out).mono ?_
    rintro e w1 ⟨rfl, bw1⟩
    rw [hok]
    go_wp2_with fail
    go_ret
    exact ⟨⟨none, 0, rfl, RectsL.nil _ _ _⟩, bw1⟩
  | true =>
    have e0 : beL P Q R S n = edL (covF P Q R S n) := by unfold beL; rw [if_pos hok]
    rw [e0]
    clear e0
    have HV := Lib.hid (okR_all hok)
    go_enter Tryz.func22, Tryz.ntmps22
    go_wp2_with fail
    refine (l03Ok_any m n cap P Q R S _ hn HR.out).mono ?_
    rintro e w1 ⟨rfl, bw1⟩
    rw [hok]
    go_wp2_with fail
    refine (l03Bits_any m n cap P Q R S _ hn (HR.out.ext bw1) HV.out).mono ?_
    rintro e w2 ⟨⟨g, rfl, hg, hB⟩, bw2⟩
    go_wp2_with fail
    refine (l06Edges_any g 6400 _ _ hB).mono ?_
    rintro e w3 ⟨⟨L, h, c, rfl, hL1, hL2, hI, hE⟩, bw3⟩
    have HI := Lib.hid hI.rects
    have e1 := edL_of hE
    subst e1
    clear hI hE
    go_wp2_with fail
    go_ret
    exact ⟨⟨_, c, rfl, HI.out⟩, Ext.trans (Ext.trans bw1 bw2) bw3⟩
end Go.Proofs.YtmabdemdapnmkaaGreatDoor
