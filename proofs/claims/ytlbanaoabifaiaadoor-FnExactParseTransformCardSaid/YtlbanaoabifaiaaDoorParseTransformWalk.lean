/- The walk of FnExactParseTransform. -/
import Derived.Test.YtlbanaoabifaiaaDoorPaJ
namespace Go.Proofs.YtlbanaoabifaiaaDoor
open Go.RowKit
set_option linter.unusedVariables false
set_option linter.unusedSimpArgs false

set_option maxHeartbeats 8000000 in
theorem walkPT_core (s : ByteArray) (o x y : Int) (b : Bool) (hS : ∀ W, Calls Tryd.prog 13 #[.string s] W fun e W' => e = .returned (.tuple #[.agg #[.int .i64 o, .int .i64 x, .int .i64 y], .bool b]) ∧ Below W.heap.size W W')
    (hI : ∀ W, ParW W → Calls Tryd.prog 9 #[.string s] W fun e W' => e = .returned (.tuple #[.agg #[.int .i64 o, .int .i64 x, .int .i64 y], .bool b]) ∧ Below W.heap.size W W')
    (w : World) (hP : ParW w) (hs : s.size ≤ 1048576) : Calls Tryd.prog 4 #[.string s] w fun e w' => e = .returned (.bool true) ∧ Below w.heap.size w w' := by
  have q0 : ¬ (1048576 : Int) < (s.size : Int) := by omega
  have he : eqTB o x y o x y = true := by simp [eqTB]
  have HP := Lib.hid hP
  have HS := Lib.hid hS
  have HI := Lib.hid hI
  clear hP hS hI
  go_enter Tryd.func4, Tryd.ntmps4
  go_wp2_with (first | (go_at_call 13; refine (HS.out _).mono ?_; rintro e w1 ⟨rfl, bw1⟩; obtain ⟨sw1, zw1, cw1, fw1⟩ := bcell bw1; (try simp only [World.size_alloc, World.size_setCell, World.size_drew] at sw1)) | (go_at_call 9; refine (HI.out _ ((HP.out.below bw1).below (Ext.alloc (Below.refl _ _) _))).mono ?_; rintro e w2 ⟨rfl, bw2⟩; obtain ⟨sw2, zw2, cw2, fw2⟩ := bcell bw2; (try simp only [World.size_alloc, World.size_setCell, World.size_drew] at sw2); (try have l12 : w1.heap.size < w2.heap.size := by omega)) | (go_at_call 14; refine (eqTransform_any _ _ _ _ _ _ _).mono ?_; rintro e w3 ⟨rfl, bw3⟩; rw [he]; obtain ⟨sw3, zw3, cw3, fw3⟩ := bcell bw3; (try simp only [World.size_alloc, World.size_setCell, World.size_drew] at sw3)))
  go_ret
  exact ⟨rfl, by (repeat (first | (with_reducible exact Below.refl _ _) | (with_reducible refine Ext.drewN ?_ _) | (with_reducible refine Below.drew ?_) | (with_reducible refine Ext.alloc ?_ _) | (with_reducible refine Ext.setCell ?_ (by simp; try omega) _) | (with_reducible refine Ext.trans ?_ (by assumption)) | (with_reducible assumption) | exact Below.refl _ _))⟩

set_option maxHeartbeats 4000000 in
theorem walkParseTransform (s : ByteArray) (w : World) (hP : ParW w) : Calls Tryd.prog 4 #[.string s] w fun e w' => e = .returned (.bool true) ∧ Below w.heap.size w w' := by
  by_cases hs : s.size ≤ 1048576
  · by_cases h : ∃ o x y, vldB o x y = true ∧ s = fmtB o x y
    · obtain ⟨o, x, y, hv, rfl⟩ := h
      exact walkPT_core _ o x y true (fun W => specParse_yes o x y W hv) (fun W hW => implParse_yes o x y W hW hv) w hP hs
    · have hno : ∀ o x y, vldB o x y = true → s ≠ fmtB o x y := fun o x y hv e => h ⟨o, x, y, hv, e⟩
      exact walkPT_core s 0 0 0 false (fun W => specParse_no s W hno) (fun W hW => implParse_no s W hW hs hno) w hP hs
  · have q0 : (1048576 : Int) < (s.size : Int) := by omega
    go_enter Tryd.func4, Tryd.ntmps4
    go_wp2_with fail
    go_ret
    exact ⟨rfl, Below.refl _ _⟩
end Go.Proofs.YtlbanaoabifaiaaDoor
