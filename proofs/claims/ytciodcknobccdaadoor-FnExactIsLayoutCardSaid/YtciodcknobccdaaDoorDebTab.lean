/- The variables that regions read, out of what the row lists. -/
import Derived.Test.YtciodcknobccdaaDoorRiC
import Derived.Lib.LaidTab
import Derived.Lib.LaidU8
import Derived.LaidMore
import Derived.Lay
import Derived.Stop.Joined
namespace Go.Proofs.YtciodcknobccdaaDoor
open Go.RowKit Go.Lib

def debL : List Int := deBruijn64tab.map fun (n : Nat) => (n : Int)
theorem debL_at : ∀ i, i < 64 → debL[i]? = some ((deBruijn64tab.getD i 0 : Nat) : Int) := by decide +kernel

theorem deb_of_laid {W : World} {laid : List (String × DataW Unit)} (h : laidMetH Tryd.prog laid W) (hp : (laid.all fun x => x.2.handleName?.isNone) = true)
    (hm : ("math/bits.deBruijn64tab", Rows.laid_math_bits_deBruijn64tab) ∈ laid) : DebW W := by
  rw [MakeChecks.laidMetH_plain _ _ _ hp] at h
  obtain ⟨g, t, cs, fuel, p, hg, hty, hvar, hd⟩ := laidMet.reads h hm
  obtain rfl := Option.some.inj ((show Tryd.prog.globalNamed "math/bits.deBruijn64tab" = some 2 by kernel_rfl).symm.trans hg)
  obtain rfl := Option.some.inj ((show (Tryd.prog.globals[2]?).map (·.type) = some 228 by kernel_rfl).symm.trans hty)
  have c1 : Tryd.prog.cellsOf 5 = 1 := by kernel_rfl
  have c64 : Tryd.prog.cellsOf 228 = 64 := by kernel_rfl
  rw [show (Rows.laid_math_bits_deBruijn64tab : DataW Unit) = tabData .u8 debL from rfl] at hd
  have hcs := cells_of_tab Tryd.underlying228 Tryd.underlying5 c1 c64 hd
  intro i hi
  rw [World.var?_cell hg hvar, ← Array.getElem?_toList, hcs]
  simp [debL_at i hi]
end Go.Proofs.YtciodcknobccdaaDoor

namespace Go.Proofs.YtciodcknobccdaaDoor
open Go.RowKit Go.Lib

theorem chip_of_laid {W : World} {laid : List (String × DataW Unit)} (h : laidMetH Tryd.prog laid W) (hp : (laid.all fun x => x.2.handleName?.isNone) = true)
    (hm : ("loop.example/g00890/impl.chip", Rows.laid_loop_example_g00890_impl_chip) ∈ laid) : ChipW W := by
  rw [MakeChecks.laidMetH_plain _ _ _ hp] at h
  obtain ⟨g, t, cs, fuel, p, hg, hty, hvar, hd⟩ := laidMet.reads h hm
  obtain rfl := Option.some.inj ((show Tryd.prog.globalNamed "loop.example/g00890/impl.chip" = some 1 by kernel_rfl).symm.trans hg)
  obtain rfl := Option.some.inj ((show (Tryd.prog.globals[1]?).map (·.type) = some 142 by kernel_rfl).symm.trans hty)
  have hu : Tryd.prog.underlying 142 = some (.struct (Tryd.prog.fieldsOf 142)) := by kernel_rfl
  have c1 : Tryd.prog.cellsOf 2 = 1 := by kernel_rfl
  have c4 : Tryd.prog.cellsOf 142 = (Tryd.prog.fieldsOf 142).size := by kernel_rfl
  have hf : (Tryd.prog.fieldsOf 142).toList.map (fun f => (f.type, f.offset)) = [(2, 0), (2, 1), (2, 2), (2, 3)] := by kernel_rfl
  have hff : ∀ (i : Nat) (f : Field), (Tryd.prog.fieldsOf 142)[i]? = some f → Tryd.prog.underlying f.type = some (.int .i64) ∧ f.offset = i ∧ Tryd.prog.cellsOf f.type = 1 := by
    intro i f hi
    have h1 : ((Tryd.prog.fieldsOf 142).toList.map (fun f => (f.type, f.offset)))[i]? = some (f.type, f.offset) := by
      rw [List.getElem?_map, Array.getElem?_toList, hi]
      rfl
    rw [hf] at h1
    have key : f.type = 2 ∧ f.offset = i := by
      rcases i with _ | _ | _ | _ | i
      all_goals simp at h1
      all_goals (obtain ⟨h1, h2⟩ := h1; exact ⟨h1.symm, by omega⟩)
    rw [key.1]
    exact ⟨Tryd.underlying2, key.2, c1⟩
  have hcs := ints_of_struct (k := .i64) (zs := [-40, -40, 40, 40]) hu hff c4 hd
  have hc : ∀ i : Nat, W.cell? ⟨1, i, none⟩ = ([-40, -40, 40, 40].map (Value.int .i64))[i]? := fun i => by
    rw [World.var?_cell hg hvar, ← Array.getElem?_toList, hcs]
  exact ⟨hc 0, hc 1, hc 2, hc 3⟩
end Go.Proofs.YtciodcknobccdaaDoor
