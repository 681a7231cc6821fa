/- For every input the law FnExactSameLibrary answers true and leaves its arguments as they were. Condition: the listed package-level variables hold what the program's text lays (the card ties them). -/
import Derived.Test.YtgamgfnbjfenaaaDoorSameLibraryLift
import Derived.Test.YtgamgfnbjfenaaaDoorSameLibraryWalk
import Derived.Test.YtgamgfnbjfenaaaDoorLbO
import Derived.ProofKit
import Derived.OpenShut
import Derived.ShutString
import Derived.ChangeOld
import Derived.Carry
import Derived.Below
import Derived.Lib.SmallJoins
import Derived.Lib.LaidU8
import Derived.Test.YtgamgfnbjfenaaaDoorFacts
import Derived.Test.YtgamgfnbjfenaaaDoorChT
import Derived.OpenVars
import Derived.LaidMore
import Derived.Stop.Joined
import Derived.SevenTiedAt
import Derived.Test.YtgamgfnbjfenaaaDoorTie
import Derived.Test.YtgamgfnbjfenaaaDoorCards
namespace Go.Proofs.YtgamgfnbjfenaaaDoor.fnExactSameLibrary
open Go.Proofs.YtgamgfnbjfenaaaDoor
open Go.ChangeShapes Go.WideShapes Go.ChangeAt Go.RowKit Go.Joins
open Go.ChangeMaps (open_string shut_string)
set_option linter.unusedVariables false

theorem closed : joinedFacts Tryd.pinned.checked.prog 11 Tryd.f11 Rows.fnExactSameLibrarySpec Rows.fnExactSameLibraryRow = true :=
  joined_of Tryd.pinned.checked.prog 11 Tryd.f11 Rows.fnExactSameLibrarySpec Rows.fnExactSameLibraryRow (by kernel_rfl) factLaid factRowed (by kernel_rfl) (by kernel_rfl) (by kernel_rfl) factStops (by kernel_rfl) factKnobs (by kernel_rfl) (by kernel_rfl) (by kernel_rfl) (by kernel_rfl) (by kernel_rfl) (by kernel_rfl) (by kernel_rfl) (by kernel_rfl) (by kernel_rfl) (by kernel_rfl) (by kernel_rfl) (by kernel_rfl) (by kernel_rfl) (by kernel_rfl) (by kernel_rfl) factHeard factEnter factLifts factMake (by kernel_rfl) (by kernel_rfl) (by kernel_rfl) (by kernel_rfl)
theorem holds : Rows.FnExactSameLibrarySaid :=
  OpenClaim.holds_of_wide 11 Tryd.f11 rfl rfl rfl rfl rfl rfl rfl ⟨rfl, rfl, rfl, rfl, rfl⟩ rfl rfl rfl rfl rfl (by kernel_rfl) Tryd.func11 closed
    (of_decide_eq_true (by kernel_rfl)) (by unfold Func.isWrapper; first | (rw [if_pos (by decide +kernel)]; kernel_rfl) | (rw [if_neg (by decide +kernel)]; exact ⟨rfl, rfl⟩))
    (fun os started H enc _ => lifted os started H enc)
theorem goes : false = Rows.fnExactSameLibraryRow.goesBy Tryd.pinned.checked.prog := by kernel_rfl
/-- The tied card. -/
theorem card_holds : Rows.FnExactSameLibraryCardSaid :=
  Claim7.holds_tied_plain_at .later [] Rows.fnExactSameLibraryCard.laidKinds true Rows.fnExactSameLibraryCard.stood.harness Rows.fnExactSameLibraryCard.stood.looks
    holds (fun _ h => by cases h) (by kernel_rfl) (fun _ h => by cases h) fnExactSameLibrary_row_tie rfl ⟨rfl, rfl⟩ factMain rfl
    (fun f fn hf hfn => by
      obtain rfl : f = 11 := Option.some.inj ((show Tryd.prog.funcNamed "loop.example/g00890/laws.FnExactSameLibrary" = some 11 by kernel_rfl).symm.trans hf) |>.symm
      obtain rfl : fn = Tryd.f11 := (Option.some.inj (Tryd.func11.symm.trans hfn)).symm
      exact ⟨factLooks, fun j t ht => by
        rw [Tryd.params11] at ht
        have hm : t ∈ Tryd.f11.params.toList := by rw [Tryd.params11]; simpa using Array.mem_of_getElem? ht
        have hall : (Tryd.f11.params.toList.all fun u => !Tryd.prog.wantsStandIn u) = true := by kernel_rfl
        exact (show Tryd.prog.wantsStandIn t = false by simpa using List.all_eq_true.1 hall t hm)⟩)
    goes
#print axioms card_holds
end Go.Proofs.YtgamgfnbjfenaaaDoor.fnExactSameLibrary
