/- For every input the law FnExactIsLayout answers true and leaves its arguments as they were. Condition: the listed package-level variables hold what the program's text lays (the card ties them). -/
import Derived.Test.YtciodcknobccdaaDoorIsLayoutLift
import Derived.Test.YtciodcknobccdaaDoorIsLayoutWalk
import Derived.ProofKit
import Derived.OpenShut
import Derived.ShutString
import Derived.ChangeOld
import Derived.Carry
import Derived.Below
import Derived.Lib.SmallJoins
import Derived.Lib.LaidU8
import Derived.Test.YtciodcknobccdaaDoorFacts
import Derived.Test.YtciodcknobccdaaDoorDebTab
import Derived.OpenVars
import Derived.LaidMore
import Derived.Stop.Joined
import Derived.SevenTiedAt
import Derived.Test.YtciodcknobccdaaDoorTie
import Derived.Test.YtciodcknobccdaaDoorCards
namespace Go.Proofs.YtciodcknobccdaaDoor.fnExactIsLayout
open Go.Proofs.YtciodcknobccdaaDoor
open Go.ChangeShapes Go.WideShapes Go.ChangeAt Go.RowKit Go.Joins
open Go.ChangeMaps (open_string shut_string)
set_option linter.unusedVariables false

theorem closed : joinedFacts Tryd.pinned.checked.prog 10 Tryd.f10 Rows.fnExactIsLayoutSpec Rows.fnExactIsLayoutRow = true :=
  joined_of Tryd.pinned.checked.prog 10 Tryd.f10 Rows.fnExactIsLayoutSpec Rows.fnExactIsLayoutRow (by kernel_rfl) factLaid factRowed (by kernel_rfl) (by kernel_rfl) (by kernel_rfl) factStops (by kernel_rfl) factKnobs (by kernel_rfl) (by kernel_rfl) (by kernel_rfl) (by kernel_rfl) (by kernel_rfl) (by kernel_rfl) (by kernel_rfl) (by kernel_rfl) (by kernel_rfl) (by kernel_rfl) (by kernel_rfl) (by kernel_rfl) (by kernel_rfl) (by kernel_rfl) (by kernel_rfl) factHeard factEnter factLifts factMake (by kernel_rfl) (by kernel_rfl) (by kernel_rfl) (by kernel_rfl)
theorem holds : Rows.FnExactIsLayoutSaid :=
  OpenClaim.holds_of_wide 10 Tryd.f10 rfl rfl rfl rfl rfl rfl rfl ⟨rfl, rfl, rfl, rfl, rfl⟩ rfl rfl rfl rfl rfl (by kernel_rfl) Tryd.func10 closed
    (of_decide_eq_true (by kernel_rfl)) (by unfold Func.isWrapper; first | (rw [if_pos (by decide +kernel)]; kernel_rfl) | (rw [if_neg (by decide +kernel)]; exact ⟨rfl, rfl⟩))
    (fun os started H enc _ => lifted os started H enc)
theorem goes : false = Rows.fnExactIsLayoutRow.goesBy Tryd.pinned.checked.prog := by kernel_rfl
/-- The tied card. -/
theorem card_holds : Rows.FnExactIsLayoutCardSaid :=
  Claim7.holds_tied_plain_at .later [] Rows.fnExactIsLayoutCard.laidKinds true Rows.fnExactIsLayoutCard.stood.harness Rows.fnExactIsLayoutCard.stood.looks
    holds (fun _ h => by cases h) (by kernel_rfl) (fun _ h => by cases h) fnExactIsLayout_row_tie rfl ⟨rfl, rfl⟩ factMain rfl
    (fun f fn hf hfn => by
      obtain rfl : f = 10 := Option.some.inj ((show Tryd.prog.funcNamed "loop.example/g00890/laws.FnExactIsLayout" = some 10 by kernel_rfl).symm.trans hf) |>.symm
      obtain rfl : fn = Tryd.f10 := (Option.some.inj (Tryd.func10.symm.trans hfn)).symm
      exact ⟨factLooks, fun j t ht => by
        rw [Tryd.params10] at ht
        have hm : t ∈ Tryd.f10.params.toList := by rw [Tryd.params10]; simpa using Array.mem_of_getElem? ht
        have hall : (Tryd.f10.params.toList.all fun u => !Tryd.prog.wantsStandIn u) = true := by kernel_rfl
        exact (show Tryd.prog.wantsStandIn t = false by simpa using List.all_eq_true.1 hall t hm)⟩)
    goes
#print axioms card_holds
end Go.Proofs.YtciodcknobccdaaDoor.fnExactIsLayout
