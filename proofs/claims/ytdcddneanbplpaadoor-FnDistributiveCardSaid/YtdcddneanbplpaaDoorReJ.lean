/- Rectangles: the bounding box of a list. Conditions: the elements' cells are in memory. -/
import Derived.Test.YtdcddneanbplpaaDoorReI
namespace Go.Proofs.YtdcddneanbplpaaDoor
open Go.RowKit
set_option linter.unusedVariables false
set_option linter.unusedSimpArgs false
attribute [local go_sem ↓] Go.wp_at_zero Go.wp_at_succ

def sh (f : Nat → Int) (k : Nat) : Int := f (k + 1)

set_option maxHeartbeats 4000000 in
theorem l02Box_any (m : Option Addr) (len cap : Nat) (P Q R S : Nat → Int) (w : World) (hlen : len ≤ 1048576) (h1 : 0 < len) (hR : RectsIs w.heap.size w m len P Q R S) :
    Calls Tryd.prog 74 #[.slice m len cap] w fun e w' => e = .returned (.agg #[.int .i64 (mn (sh P) (P 0) (len - 1)), .int .i64 (mn (sh Q) (Q 0) (len - 1)), .int .i64 (mx (sh R) (R 0) (len - 1)), .int .i64 (mx (sh S) (S 0) (len - 1))]) ∧ Below w.heap.size w w' := by
  obtain ⟨b0, o0, rfl, hb0, t0, t1, t2, t3⟩ := hR 0 h1
  simp only [Nat.zero_mul, Nat.add_zero] at t0 t1 t2 t3
  go_enter Tryd.func74, Tryd.ntmps74
  go_wp2_with fail
  go_loopw [4] (fun s5 wr => ∃ i : Nat, i + 1 ≤ len ∧ s5 = .int .i64 (i + 1 : Nat) ∧ w.heap.size + 1 < wr.heap.size ∧ Below w.heap.size w wr ∧ RectAt wr w.heap.size 0 0 0 0 ∧ RectAt wr (w.heap.size + 1) (mn (sh P) (P 0) i) (mn (sh Q) (Q 0) i) (mx (sh R) (R 0) i) (mx (sh S) (S 0) i)) (fun s5 _ => len - (intOf s5).toNat)
  case atStart => exact ⟨0, by omega, rfl, by simp, by (repeat (first | (with_reducible exact Below.refl _ _) | (with_reducible refine Ext.drewN ?_ _) | (with_reducible refine Below.drew ?_) | (with_reducible refine Ext.alloc ?_ _) | (with_reducible refine Ext.setCell ?_ (by simp; try omega) _) | (with_reducible refine Ext.trans ?_ (by assumption)) | (with_reducible assumption) | exact Below.refl _ _)), by unfold RectAt; simp [go_sem], by unfold RectAt; simp [go_sem, mn, mx]⟩
  case round =>
    obtain ⟨i, hi, rfl, hsz, hW, hZ, hX⟩ := hrel
    have HZ := Lib.hid hZ
    have HX := Lib.hid hX
    obtain ⟨z0, z1, z2, z3, y0, y1, y2, y3⟩ := hZ
    obtain ⟨e0, e1, e2, e3, f0, f1, f2, f3⟩ := hX
    by_cases hlt : i + 1 < len
    · obtain ⟨b1, o1, hbb, hb1, c0, c1, c2, c3⟩ := hR.below hW (i + 1) hlt
      obtain ⟨rfl, rfl⟩ : b0 = b1 ∧ o0 = o1 := by simpa using hbb
      have q1 : ((i + 1 : Nat) : Int) < (len : Int) := by omega
      have q0 : (0 : Int) ≤ ((i + 1 : Nat) : Int) := by omega
      go_wp2_with fail
      go_roundw
      case rel => exact ⟨i + 1, by omega, by go_num, by simp; omega, by (repeat (first | (with_reducible exact Below.refl _ _) | (with_reducible refine Ext.drewN ?_ _) | (with_reducible refine Below.drew ?_) | (with_reducible refine Ext.alloc ?_ _) | (with_reducible refine Ext.setCell ?_ (by simp; try omega) _) | (with_reducible refine Ext.trans ?_ (by assumption)) | (with_reducible assumption) | exact Below.refl _ _)), (((((HZ.out.other (by simp) _).other (by simp) _).other (by simp) _).other (by simp) _).alloc _), (HX.out.set _ _ _ _).alloc _⟩
      case measure => simp [intOf]; omega
    · have q1 : ¬ ((i + 1 : Nat) : Int) < (len : Int) := by omega
      obtain rfl : len = i + 1 := by omega
      go_wp2_with fail
      refine bodyPost_ret (v := .agg #[.int .i64 (mn (sh P) (P 0) i), .int .i64 (mn (sh Q) (Q 0) i), .int .i64 (mx (sh R) (R 0) i), .int .i64 (mx (sh S) (S 0) i)]) (by simp [*, results, Tryd.results74, go_sem]) rfl ⟨rfl, ?_⟩
      (repeat (first | (with_reducible exact Below.refl _ _) | (with_reducible refine Ext.drewN ?_ _) | (with_reducible refine Below.drew ?_) | (with_reducible refine Ext.alloc ?_ _) | (with_reducible refine Ext.setCell ?_ (by simp; try omega) _) | (with_reducible refine Ext.trans ?_ (by assumption)) | (with_reducible assumption) | exact Below.refl _ _))
end Go.Proofs.YtdcddneanbplpaaDoor
