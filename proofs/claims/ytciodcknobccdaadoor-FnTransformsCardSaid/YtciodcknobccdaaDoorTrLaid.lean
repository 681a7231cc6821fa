/- The table of orientations in memory, out of what the row lists: the 32 cells of the variable orientationMatrices. -/
import Derived.Test.YtciodcknobccdaaDoorTrA
import Derived.Lib.LaidTab
import Derived.Lib.LaidU8
import Derived.LaidMore
import Derived.Lay
import Derived.Stop.Joined
namespace Go.Proofs.YtciodcknobccdaaDoor
open Go.RowKit Go.Lib

def matL : List Int := [1, 0, 0, 1, 0, -1, 1, 0, -1, 0, 0, -1, 0, 1, -1, 0, 1, 0, 0, -1, 0, 1, 1, 0, -1, 0, 0, 1, 0, -1, -1, 0]
/-- The variable's cells hold the table. -/
def Mats (w : World) : Prop := ∀ i, i < 32 → w.cell? ⟨0, i, none⟩ = some (.int .i64 (matL.getD i 0))

theorem mats_of_reads {W : World} (h : VarReads Tryd.prog W "loop.example/g00890/impl.orientationMatrices" Rows.laid_loop_example_g00890_impl_orientationMatrices) : Mats W := by
  obtain ⟨g, t, cs, fuel, p, hg, hty, hvar, hd⟩ := h
  obtain rfl := Option.some.inj ((show Tryd.prog.globalNamed "loop.example/g00890/impl.orientationMatrices" = some 0 by kernel_rfl).symm.trans hg)
  obtain rfl := Option.some.inj ((show (Tryd.prog.globals[0]?).map (·.type) = some 125 by kernel_rfl).symm.trans hty)
  have c4 : Tryd.prog.cellsOf 124 = 4 := by kernel_rfl
  have c1 : Tryd.prog.cellsOf 2 = 1 := by kernel_rfl
  have key : ∀ i, i < 8 → ∀ j, j < 4 → W.cell? ⟨0, i * 4 + j, none⟩ = some (.int .i64 (matL.getD (i * 4 + j) 0)) := by
    intro i hi j hj
    obtain ⟨f', d, q, hds, hr⟩ := array_elem Tryd.underlying125 hd i hi
    rw [c4] at hr
    have hdd : d = tabData .i64 [matL.getD (i * 4) 0, matL.getD (i * 4 + 1) 0, matL.getD (i * 4 + 2) 0, matL.getD (i * 4 + 3) 0] := by
      rcases (show i = 0 ∨ i = 1 ∨ i = 2 ∨ i = 3 ∨ i = 4 ∨ i = 5 ∨ i = 6 ∨ i = 7 by omega) with rfl | rfl | rfl | rfl | rfl | rfl | rfl | rfl <;> exact (Option.some.inj hds).symm
    rw [hdd] at hr
    have hcs := cells_of_tab Tryd.underlying124 Tryd.underlying2 c1 c4 hr
    have h2 : cs.toList[i * 4 + j]? = some (.int .i64 (matL.getD (i * 4 + j) 0)) := by
      have h3 : ((cs.toList.drop (i * 4)).take 4)[j]? = cs.toList[i * 4 + j]? := by
        rw [List.getElem?_take_of_lt hj, List.getElem?_drop]
      rw [← h3, hcs]
      rcases (show j = 0 ∨ j = 1 ∨ j = 2 ∨ j = 3 by omega) with rfl | rfl | rfl | rfl <;> rfl
    rw [World.var?_cell hg hvar]
    simpa using h2
  intro i hi
  have := key (i / 4) (by omega) (i % 4) (by omega)
  rw [show i / 4 * 4 + i % 4 = i by omega] at this
  exact this

theorem mats_of_laid {W : World} {laid : List (String × DataW Unit)} (h : laidMetH Tryd.prog laid W) (hp : (laid.all fun x => x.2.handleName?.isNone) = true)
    (hm : ("loop.example/g00890/impl.orientationMatrices", Rows.laid_loop_example_g00890_impl_orientationMatrices) ∈ laid) : Mats W := by
  rw [MakeChecks.laidMetH_plain _ _ _ hp] at h
  exact mats_of_reads (laidMet.reads h hm)

theorem Mats.below {W W' : World} (h : Mats W) (hb : Below W.heap.size W W') (hz : 0 < W.heap.size) : Mats W' := fun i hi => (hb.cell (p := ⟨0, i, none⟩) hz).trans (h i hi)
theorem Mats.size {W : World} (h : Mats W) : 0 < W.heap.size := by
  have := h 0 (by omega)
  unfold World.cell? at this
  split at this
  · rename_i heq
    exact (Array.getElem?_eq_some_iff.1 heq).1
  · cases this
theorem Mats.ne {W : World} (h : Mats W) : ¬ W.heap = #[] := fun e => by have := h.size; rw [e] at this; simp at this
end Go.Proofs.YtciodcknobccdaaDoor
