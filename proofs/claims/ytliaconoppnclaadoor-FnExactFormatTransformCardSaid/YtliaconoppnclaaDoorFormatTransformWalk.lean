/- The walk of FnExactFormatTransform. -/
import Derived.Test.YtliaconoppnclaaDoorTrTab
namespace Go.Proofs.YtliaconoppnclaaDoor
open Go.RowKit
set_option linter.unusedVariables false
set_option linter.unusedSimpArgs false

set_option maxHeartbeats 16000000 in
theorem walkFormatTransform (o x y : Int) (w : World) (hT : TabW w) : Calls Tryd.prog 11 #[.agg #[.int .i64 o, .int .i64 x, .int .i64 y]] w fun e w' => e = .returned (.bool true) ∧ Below w.heap.size w w' := by
  go_enter Tryd.func11, Tryd.ntmps11
  go_upto_region 1 with fail
  go_cut [3] (fun s wx => s = .string (fmtB o x y) ∧ w.heap.size < wx.heap.size ∧ Below w.heap.size w wx ∧ wx.cell? ⟨w.heap.size, 0, none⟩ = some (.int .i64 o) ∧ wx.cell? ⟨w.heap.size, 1, none⟩ = some (.int .i64 x) ∧ wx.cell? ⟨w.heap.size, 2, none⟩ = some (.int .i64 y))
  case first =>
    go_wp2_with (first | (go_at_call 27; refine (toTransform_any _ _ _ _).mono ?_; rintro e v1 ⟨rfl, bv1⟩; obtain ⟨sv1, zv1, cv1, fv1⟩ := bcell bv1; (try simp only [World.size_alloc, World.size_setCell, World.size_drew] at sv1); (try have nv1 : w.heap.size < v1.heap.size := by omega)) | (go_at_call 40; refine (specFormat_any _ _ _ _).mono ?_; rintro e v2 ⟨rfl, bv2⟩; obtain ⟨sv2, zv2, cv2, fv2⟩ := bcell bv2; (try simp only [World.size_alloc, World.size_setCell, World.size_drew] at sv2)))
    go_meet
    refine ⟨rfl, ?_, ?_, ?_, ?_, ?_⟩
    · (try simp only [World.size_alloc, World.size_setCell, World.size_drew]); omega
    · (repeat (first | (with_reducible exact Below.refl _ _) | (with_reducible refine Ext.drewN ?_ _) | (with_reducible refine Below.drew ?_) | (with_reducible refine Ext.alloc ?_ _) | (with_reducible refine Ext.setCell ?_ (by simp; try omega) _) | (with_reducible refine Ext.trans ?_ (by assumption)) | (with_reducible assumption) | exact Below.refl _ _))
    · exact keepC bv2 (keepC bv1 (by first | assumption | simp [go_sem]))
    · exact keepC bv2 (keepC bv1 (by first | assumption | simp [go_sem]))
    · exact keepC bv2 (keepC bv1 (by first | assumption | simp [go_sem]))
  case rest =>
    obtain ⟨rfl, n0, bc, q0, q1, q2⟩ := hcut
    have hTc : TabW wc := TabW.below hT bc
    go_upto_region 2 with fail
    go_cut [4] (fun s wx => s = .string (fmtB o x y) ∧ w.heap.size < wx.heap.size ∧ Below w.heap.size w wx ∧ wx.cell? ⟨w.heap.size, 0, none⟩ = some (.int .i64 o) ∧ wx.cell? ⟨w.heap.size, 1, none⟩ = some (.int .i64 x) ∧ wx.cell? ⟨w.heap.size, 2, none⟩ = some (.int .i64 y))
    case first =>
      go_wp2_with (first | (go_at_call 27; refine (toTransform_any _ _ _ _).mono ?_; rintro e v1 ⟨rfl, bv1⟩; obtain ⟨sv1, zv1, cv1, fv1⟩ := bcell bv1; (try simp only [World.size_alloc, World.size_setCell, World.size_drew] at sv1); (try have nv1 : w.heap.size < v1.heap.size := by omega)) | (go_at_call 24; refine (implFormat_any _ _ _ _ (TabW.below hTc ?_)).mono ?_; assumption; rintro e v2 ⟨rfl, bv2⟩; obtain ⟨sv2, zv2, cv2, fv2⟩ := bcell bv2; (try simp only [World.size_alloc, World.size_setCell, World.size_drew] at sv2)))
      go_meet
      refine ⟨rfl, ?_, ?_, ?_, ?_, ?_⟩
      · (try simp only [World.size_alloc, World.size_setCell, World.size_drew]); omega
      · (repeat (first | (with_reducible exact Below.refl _ _) | (with_reducible refine Ext.drewN ?_ _) | (with_reducible refine Below.drew ?_) | (with_reducible refine Ext.alloc ?_ _) | (with_reducible refine Ext.setCell ?_ (by simp; try omega) _) | (with_reducible refine Ext.trans ?_ (by assumption)) | (with_reducible assumption) | exact Below.refl _ _))
      · exact keepC bv2 (keepC bv1 (by first | assumption | simp [go_sem]))
      · exact keepC bv2 (keepC bv1 (by first | assumption | simp [go_sem]))
      · exact keepC bv2 (keepC bv1 (by first | assumption | simp [go_sem]))
    case rest =>
      obtain ⟨rfl, n1, bc1, -, -, -⟩ := hcut
      go_wp2_with fail
      go_ret
      exact ⟨rfl, bc1⟩
end Go.Proofs.YtliaconoppnclaaDoor
