/- The table of math/bits, out of what the row lists. -/
import Derived.Test.YtadfmflkaemmbaaDoorRiC
import Derived.Lib.LaidTab
import Derived.Lib.LaidU8
import Derived.LaidMore
import Derived.Lay
import Derived.Stop.Joined
namespace Go.Proofs.YtadfmflkaemmbaaDoor
open Go.RowKit Go.Lib

def debL : List Int := deBruijn64tab.map fun (n : Nat) => (n : Int)
theorem debL_at : ∀ i, i < 64 → debL[i]? = some ((deBruijn64tab.getD i 0 : Nat) : Int) := by decide +kernel

theorem deb_of_laid {W : World} {laid : List (String × DataW Unit)} (h : laidMetH Tryd.prog laid W) (hp : (laid.all fun x => x.2.handleName?.isNone) = true)
    (hm : ("math/bits.deBruijn64tab", Rows.laid_math_bits_deBruijn64tab) ∈ laid) : DebW W := by
  rw [MakeChecks.laidMetH_plain _ _ _ hp] at h
  obtain ⟨g, t, cs, fuel, p, hg, hty, hvar, hd⟩ := laidMet.reads h hm
  obtain rfl := Option.some.inj ((show Tryd.prog.globalNamed "math/bits.deBruijn64tab" = some 0 by kernel_rfl).symm.trans hg)
  obtain rfl := Option.some.inj ((show (Tryd.prog.globals[0]?).map (·.type) = some 113 by kernel_rfl).symm.trans hty)
  have c1 : Tryd.prog.cellsOf 5 = 1 := by kernel_rfl
  have c64 : Tryd.prog.cellsOf 113 = 64 := by kernel_rfl
  rw [show (Rows.laid_math_bits_deBruijn64tab : DataW Unit) = tabData .u8 debL from rfl] at hd
  have hcs := cells_of_tab Tryd.underlying113 Tryd.underlying5 c1 c64 hd
  intro i hi
  rw [World.var?_cell hg hvar, ← Array.getElem?_toList, hcs]
  simp [debL_at i hi]
end Go.Proofs.YtadfmflkaemmbaaDoor
