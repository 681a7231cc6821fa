/- For every input the law FnExactRegionFromEdges answers true and leaves its arguments as they were. Condition: the listed package-level variables hold what the program's text lays (the card ties them). -/
import Derived.Test.YtfbalpkjcfdakaaGreatDoorRegionFromEdgesLift
import Derived.Test.YtfbalpkjcfdakaaGreatDoorRegionFromEdgesWalk
import Derived.Test.YtfbalpkjcfdakaaGreatDoorEdgesOpen
import Derived.ProofKit
import Derived.OpenShut
import Derived.ShutString
import Derived.ChangeOld
import Derived.Carry
import Derived.Below
import Derived.Lib.SmallJoins
import Derived.Lib.LaidU8
import Derived.Test.YtfbalpkjcfdakaaGreatDoorFacts
import Derived.Test.YtfbalpkjcfdakaaGreatDoorQI
import Derived.OpenVars
import Derived.LaidMore
import Derived.Stop.Joined
import Derived.SevenTiedAt
import Derived.Test.YtfbalpkjcfdakaaGreatDoorTie
import Derived.Test.YtfbalpkjcfdakaaGreatDoorCards
namespace Go.Proofs.YtfbalpkjcfdakaaGreatDoor.fnExactRegionFromEdges
open Go.Proofs.YtfbalpkjcfdakaaGreatDoor
open Go.ChangeShapes Go.WideShapes Go.ChangeAt Go.RowKit Go.Joins
open Go.ChangeMaps (open_string shut_string)
set_option linter.unusedVariables false

theorem closed : joinedFacts Tryz.pinned.checked.prog 5 Tryz.f5 Rows.fnExactRegionFromEdgesSpec Rows.fnExactRegionFromEdgesRow = true :=
  joined_of Tryz.pinned.checked.prog 5 Tryz.f5 Rows.fnExactRegionFromEdgesSpec Rows.fnExactRegionFromEdgesRow (by kernel_rfl) factLaid factRowed (by kernel_rfl) (by kernel_rfl) (by kernel_rfl) factStops (by kernel_rfl) factKnobs (by kernel_rfl) (by kernel_rfl) (by kernel_rfl) (by kernel_rfl) (by kernel_rfl) (by kernel_rfl) (by kernel_rfl) (by kernel_rfl) (by kernel_rfl) (by kernel_rfl) (by kernel_rfl) (by kernel_rfl) (by kernel_rfl) (by kernel_rfl) (by kernel_rfl) factHeard factEnter factLifts factMake (by kernel_rfl) (by kernel_rfl) (by kernel_rfl) (by kernel_rfl)
theorem holds : Rows.FnExactRegionFromEdgesSaid :=
  OpenClaim.holds_of_wide 5 Tryz.f5 rfl rfl rfl rfl rfl rfl rfl ⟨rfl, rfl, rfl, rfl, rfl⟩ rfl rfl rfl rfl rfl (by kernel_rfl) Tryz.func5 closed
    (of_decide_eq_true (by kernel_rfl)) (by unfold Func.isWrapper; first | (rw [if_pos (by decide +kernel)]; kernel_rfl) | (rw [if_neg (by decide +kernel)]; exact ⟨rfl, rfl⟩))
    (fun os started H enc _ => lifted os started H enc)
theorem goes : false = Rows.fnExactRegionFromEdgesRow.goesBy Tryz.pinned.checked.prog := by kernel_rfl
/-- The tied card. -/
theorem card_holds : Rows.FnExactRegionFromEdgesCardSaid :=
  Claim7.holds_tied_plain_at .later [] Rows.fnExactRegionFromEdgesCard.laidKinds true Rows.fnExactRegionFromEdgesCard.stood.harness Rows.fnExactRegionFromEdgesCard.stood.looks
    holds (fun _ h => by cases h) (by kernel_rfl) (fun _ h => by cases h) fnExactRegionFromEdges_row_tie rfl ⟨rfl, rfl⟩ factMain rfl
    (fun f fn hf hfn => by
      obtain rfl : f = 5 := Option.some.inj ((show Tryz.prog.funcNamed "loop.example/g00890/laws.FnExactRegionFromEdges" = some 5 by kernel_rfl).symm.trans hf) |>.symm
      obtain rfl : fn = Tryz.f5 := (Option.some.inj (Tryz.func5.symm.trans hfn)).symm
      exact ⟨factLooks, fun j t ht => by
        rw [Tryz.params5] at ht
        have hm : t ∈ Tryz.f5.params.toList := by rw [Tryz.params5]; simpa using Array.mem_of_getElem? ht
        have hall : (Tryz.f5.params.toList.all fun u => !Tryz.prog.wantsStandIn u) = true := by kernel_rfl
        exact (show Tryz.prog.wantsStandIn t = false by simpa using List.all_eq_true.1 hall t hm)⟩)
    goes
#print axioms card_holds
end Go.Proofs.YtfbalpkjcfdakaaGreatDoor.fnExactRegionFromEdges
