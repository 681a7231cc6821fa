/- strconv's table of powers of ten, out of what the row lists. -/
import Derived.Test.YtlbanaoabifaiaaDoorTrFmi
import Derived.Test.YtlbanaoabifaiaaDoorTrLaid
namespace Go.Proofs.YtlbanaoabifaiaaDoor
open Go.RowKit Go.Lib

theorem tab_of_laid {W : World} {laid : List (String × DataW Unit)} (h : laidMetH Tryd.prog laid W) (hp : (laid.all fun x => x.2.handleName?.isNone) = true)
    (hm : ("internal/strconv.uint64pow10", Rows.laid_internal_strconv_uint64pow10) ∈ laid) : TabW W := by
  rw [MakeChecks.laidMetH_plain _ _ _ hp] at h
  obtain ⟨g, t, cs, fuel, p, hg, hty, hvar, hd⟩ := laidMet.reads h hm
  obtain rfl := Option.some.inj ((show Tryd.prog.globalNamed "internal/strconv.uint64pow10" = some 3 by kernel_rfl).symm.trans hg)
  obtain rfl := Option.some.inj ((show (Tryd.prog.globals[3]?).map (·.type) = some 113 by kernel_rfl).symm.trans hty)
  have c1 : Tryd.prog.cellsOf 87 = 1 := by kernel_rfl
  have c20 : Tryd.prog.cellsOf 113 = 20 := by kernel_rfl
  unfold TabW TabIs
  rw [show (Rows.laid_internal_strconv_uint64pow10 : DataW Unit) = tabData .u64 pow10Tab from rfl] at hd
  rw [hvar, ← cells_of_tab Tryd.underlying113 Tryd.underlying87 c1 c20 hd]

/-- Three named variables have three data. -/
theorem vars3 {H : Type} {enc : TypeId × Value → H} {P : Program} {w : World} {spare : Nat → Bool} {a b c : String} {gs : List (DataW H)} {ps : List MemPlace} (h : DataW.TrodVars enc P w spare [a, b, c] gs ps) : ∃ d0 d1 d2, gs = [d0, d1, d2] := by
  cases gs with
  | nil => simp [DataW.TrodVars] at h
  | cons d0 l =>
    obtain ⟨_, _, _, _, _, q, _, _, _, _, h, _⟩ := h
    cases l with
    | nil => simp [DataW.TrodVars] at h
    | cons d1 l =>
      obtain ⟨_, _, _, _, _, q, _, _, _, _, h, _⟩ := h
      cases l with
      | nil => simp [DataW.TrodVars] at h
      | cons d2 l =>
        obtain ⟨_, _, _, _, _, q, _, _, _, _, h, _⟩ := h
        cases l with
        | nil => exact ⟨d0, d1, d2, rfl⟩
        | cons d3 l => simp [DataW.TrodVars] at h
end Go.Proofs.YtlbanaoabifaiaaDoor
