/- For every input the law FnExactHoles answers true and leaves its arguments as they were. Condition: the listed package-level variables hold what the program's text lays (the card ties them). -/
import Derived.Test.YtepfnnhmplaocaaDoorHolesLift
import Derived.Test.YtepfnnhmplaocaaDoorHolesWalk
import Derived.Test.YtepfnnhmplaocaaDoorQI
import Derived.ProofKit
import Derived.OpenShut
import Derived.ShutString
import Derived.ChangeOld
import Derived.Carry
import Derived.Below
import Derived.Lib.SmallJoins
import Derived.Lib.LaidU8
import Derived.Test.YtepfnnhmplaocaaDoorFacts
import Derived.OpenVars
import Derived.LaidMore
import Derived.Stop.Joined
import Derived.SevenTiedAt
import Derived.Test.YtepfnnhmplaocaaDoorTie
import Derived.Test.YtepfnnhmplaocaaDoorCards
namespace Go.Proofs.YtepfnnhmplaocaaDoor.fnExactHoles
open Go.Proofs.YtepfnnhmplaocaaDoor
open Go.ChangeShapes Go.WideShapes Go.ChangeAt Go.RowKit Go.Joins
open Go.ChangeMaps (open_string shut_string)
set_option linter.unusedVariables false

theorem closed : joinedFacts Tryd.pinned.checked.prog 14 Tryd.f14 Rows.fnExactHolesSpec Rows.fnExactHolesRow = true :=
  joined_of Tryd.pinned.checked.prog 14 Tryd.f14 Rows.fnExactHolesSpec Rows.fnExactHolesRow (by kernel_rfl) factLaid factRowed (by kernel_rfl) (by kernel_rfl) (by kernel_rfl) factStops (by kernel_rfl) factKnobs (by kernel_rfl) (by kernel_rfl) (by kernel_rfl) (by kernel_rfl) (by kernel_rfl) (by kernel_rfl) (by kernel_rfl) (by kernel_rfl) (by kernel_rfl) (by kernel_rfl) (by kernel_rfl) (by kernel_rfl) (by kernel_rfl) (by kernel_rfl) (by kernel_rfl) factHeard factEnter factLifts factMake (by kernel_rfl) (by kernel_rfl) (by kernel_rfl) (by kernel_rfl)
theorem holds : Rows.FnExactHolesSaid :=
  OpenClaim.holds_of_wide 14 Tryd.f14 rfl rfl rfl rfl rfl rfl rfl ⟨rfl, rfl, rfl, rfl, rfl⟩ rfl rfl rfl rfl rfl (by kernel_rfl) Tryd.func14 closed
    (of_decide_eq_true (by kernel_rfl)) (by unfold Func.isWrapper; first | (rw [if_pos (by decide +kernel)]; kernel_rfl) | (rw [if_neg (by decide +kernel)]; exact ⟨rfl, rfl⟩))
    (fun os started H enc _ => lifted os started H enc)
theorem goes : false = Rows.fnExactHolesRow.goesBy Tryd.pinned.checked.prog := by kernel_rfl
/-- The tied card. -/
theorem card_holds : Rows.FnExactHolesCardSaid :=
  Claim7.holds_tied_plain_at .later [] Rows.fnExactHolesCard.laidKinds true Rows.fnExactHolesCard.stood.harness Rows.fnExactHolesCard.stood.looks
    holds (fun _ h => by cases h) (by kernel_rfl) (fun _ h => by cases h) fnExactHoles_row_tie rfl ⟨rfl, rfl⟩ factMain rfl
    (fun f fn hf hfn => by
      obtain rfl : f = 14 := Option.some.inj ((show Tryd.prog.funcNamed "loop.example/g00890/laws.FnExactHoles" = some 14 by kernel_rfl).symm.trans hf) |>.symm
      obtain rfl : fn = Tryd.f14 := (Option.some.inj (Tryd.func14.symm.trans hfn)).symm
      exact ⟨factLooks, fun j t ht => by
        rw [Tryd.params14] at ht
        have hm : t ∈ Tryd.f14.params.toList := by rw [Tryd.params14]; simpa using Array.mem_of_getElem? ht
        have hall : (Tryd.f14.params.toList.all fun u => !Tryd.prog.wantsStandIn u) = true := by kernel_rfl
        exact (show Tryd.prog.wantsStandIn t = false by simpa using List.all_eq_true.1 hall t hm)⟩)
    goes
#print axioms card_holds
end Go.Proofs.YtepfnnhmplaocaaDoor.fnExactHoles
