/- CellDepth and ElementCount, by the program. Conditions: the cells' parts are in memory; impl.chip holds its value. -/
import Derived.Test.YtciodcknobccdaaDoorLcE
import Derived.Test.YtciodcknobccdaaDoorLcG
namespace Go.Proofs.YtciodcknobccdaaDoor
open Go.RowKit
set_option linter.unusedVariables false
set_option linter.unusedSimpArgs false
attribute [local go_sem ↓] Go.wp_at_zero Go.wp_at_succ

def dpV (L : List Cel) (k : Int) : Int := if hasC L k = true then totV dpAdd 0 L L.length k.toNat else -1
def ctV (L : List Cel) (k : Int) : Int := if hasC L k = true then totV ctAdd 1 L L.length k.toNat else -1
theorem dpV_no {L : List Cel} {k : Int} (h : hasC L k = false) : dpV L k = -1 := by unfold dpV; rw [if_neg (by simp [h])]
theorem dpV_yes {L : List Cel} {k : Int} (h : hasC L k = true) : dpV L k = totV dpAdd 0 L L.length k.toNat := by unfold dpV; rw [if_pos h]
theorem ctV_no {L : List Cel} {k : Int} (h : hasC L k = false) : ctV L k = -1 := by unfold ctV; rw [if_neg (by simp [h])]
theorem ctV_yes {L : List Cel} {k : Int} (h : hasC L k = true) : ctV L k = totV ctAdd 1 L L.length k.toNat := by unfold ctV; rw [if_pos h]
theorem specDepth_o (a : Option Addr) (L : List Cel) (cap : Nat) (k : Int) (w : World) (hs : szCs L ≤ 1048576) (hL : CelsAt w.heap.size w a L) :
    Calls Tryd.prog 26 #[.agg #[.slice a L.length cap], .int .i64 k] w fun e w' => e = .returned (.int .i64 (dpV L k)) ∧ Below w.heap.size w w' := specCellDepth_any a L cap k w hs hL
theorem specCount_o (a : Option Addr) (L : List Cel) (cap : Nat) (k : Int) (w : World) (hs : szCs L ≤ 1048576) (hL : CelsAt w.heap.size w a L) :
    Calls Tryd.prog 35 #[.agg #[.slice a L.length cap], .int .i64 k] w fun e w' => e = .returned (.int .i64 (ctV L k)) ∧ Below w.heap.size w w' := specElementCount_any a L cap k w hs hL
theorem depth1_any (d v : Int) (s : Ins) (w : World) (hv : 0 ≤ v ∧ v ≤ 8) : Calls Tryd.prog 46 #[.int .i64 d, .agg #[.int .i64 s.c, .int .i64 s.o, .int .i64 s.x, .int .i64 s.y, .int .i64 s.m, .int .i64 s.n, .int .i64 s.p, .int .i64 s.q], .int .i64 v] w fun e w' => e = .returned (.int .i64 (dpAdd d s v)) ∧ Below w.heap.size w w' := by
  have hw2 : IntKind.i64.wrap (1 + v) = 1 + v := by rw [IntKind.wrap_i64]; omega
  have HE : Hid (dpAdd d s v = if d < 1 + v then 1 + v else d) := Lib.hid (max_if d (1 + v))
  clear hv
  rw [HE.out]
  by_cases h : d < 1 + v
  · rw [if_pos h]
    go_enter Tryd.func46, Tryd.ntmps46
    go_wp2_with fail
    go_ret
    exact ⟨by first | rfl | simp [h, hw2], by (repeat (first | (with_reducible exact Below.refl _ _) | (with_reducible refine Ext.drewN ?_ _) | (with_reducible refine Below.drew ?_) | (with_reducible refine Ext.alloc ?_ _) | (with_reducible refine Ext.setCell ?_ (by simp; try omega) _) | (with_reducible refine Ext.trans ?_ (by assumption)) | (with_reducible assumption) | exact Below.refl _ _))⟩
  · rw [if_neg h]
    go_enter Tryd.func46, Tryd.ntmps46
    go_wp2_with fail
    go_ret
    exact ⟨by first | rfl | simp [h, hw2], by (repeat (first | (with_reducible exact Below.refl _ _) | (with_reducible refine Ext.drewN ?_ _) | (with_reducible refine Below.drew ?_) | (with_reducible refine Ext.alloc ?_ _) | (with_reducible refine Ext.setCell ?_ (by simp; try omega) _) | (with_reducible refine Ext.trans ?_ (by assumption)) | (with_reducible assumption) | exact Below.refl _ _))⟩
set_option maxHeartbeats 4000000 in
theorem count1_any (d v : Int) (s : Ins) (w : World) (hm : 1 ≤ s.m ∧ s.m ≤ 4) (hn : 1 ≤ s.n ∧ s.n ≤ 4) (hv : 1 ≤ v ∧ v ≤ 594467302491009) (hd : 1 ≤ d ∧ d ≤ 76686282021340161) : Calls Tryd.prog 69 #[.int .i64 d, .agg #[.int .i64 s.c, .int .i64 s.o, .int .i64 s.x, .int .i64 s.y, .int .i64 s.m, .int .i64 s.n, .int .i64 s.p, .int .i64 s.q], .int .i64 v] w fun e w' => e = .returned (.int .i64 (ctAdd d s v)) ∧ Below w.heap.size w w' := by
  have hpr := ct_prod hm hn hv
  have hw1 : IntKind.i64.wrap (s.m * s.n) = s.m * s.n := by rw [IntKind.wrap_i64]; omega
  have hw2 : IntKind.i64.wrap (s.m * s.n * v) = s.m * s.n * v := by rw [IntKind.wrap_i64]; omega
  have hw3 : IntKind.i64.wrap (d + s.m * s.n * v) = d + s.m * s.n * v := by rw [IntKind.wrap_i64]; omega
  have HE : Hid (ctAdd d s v = d + s.m * s.n * v) := Lib.hid rfl
  clear hv hm hn hd hpr
  rw [HE.out]
  go_enter Tryd.func69, Tryd.ntmps69
  go_upto_region 1 with fail
  first
  | (go_wp2_with fail
     go_ret
     exact ⟨by first | rfl | simp [hw1, hw2, hw3], by (repeat (first | (with_reducible exact Below.refl _ _) | (with_reducible refine Ext.drewN ?_ _) | (with_reducible refine Below.drew ?_) | (with_reducible refine Ext.alloc ?_ _) | (with_reducible refine Ext.setCell ?_ (by simp; try omega) _) | (with_reducible refine Ext.trans ?_ (by assumption)) | (with_reducible assumption) | exact Below.refl _ _))⟩)
  | (go_region_with fail
     all_goals
       go_wp2_with fail
       go_ret
       exact ⟨by first | rfl | simp [hw1, hw2, hw3], by (repeat (first | (with_reducible exact Below.refl _ _) | (with_reducible refine Ext.drewN ?_ _) | (with_reducible refine Below.drew ?_) | (with_reducible refine Ext.alloc ?_ _) | (with_reducible refine Ext.setCell ?_ (by simp; try omega) _) | (with_reducible refine Ext.trans ?_ (by assumption)) | (with_reducible assumption) | exact Below.refl _ _))⟩)
theorem dp_addOK {L : List Cel} (h : libB L = true) : AddOK (.func 46) dpAdd 0 L := fun f hf i c t s hi hs w => by
  cases hf
  have hl := get_lt hi
  rw [accF_succ hs]
  have hin := (lib_ins h hi hs).1
  exact depth1_any _ _ s w (dp_bound' h (Nat.le_of_lt hl) (by omega))
theorem ct_addOK {L : List Cel} (h : libB L = true) : AddOK (.func 69) ctAdd 1 L := fun f hf i c t s hi hs w => by
  cases hf
  have hl := get_lt hi
  have ht := get_lt hs
  rw [accF_succ hs]
  obtain ⟨hin, hm, hn⟩ := lib_ins h hi hs
  exact count1_any _ _ s w hm hn (ct_val h (Nat.le_of_lt hl) (by omega)) (ct_part h hi (Nat.le_of_lt ht))
theorem implCellDepth_any (a : Option Addr) (L : List Cel) (cap : Nat) (k : Int) (w : World) (hCh : ChipW w) (hs : szCs L ≤ 1048576) (hL : CelsAt w.heap.size w a L) :
    Calls Tryd.prog 14 #[.agg #[.slice a L.length cap], .int .i64 k] w fun e w' => e = .returned (.int .i64 (dpV L k)) ∧ Below w.heap.size w w' := by
  have hmf : ∀ (fn : Fn) (first cap : Array Value) (w : World), (Instr.makeFunc fn first cap).run Tryd.prog w = .ok (.func fn first cap) w := fun _ _ _ _ => rfl
  have HL := Lib.hid hL
  have HCh := Lib.hid hCh
  clear hL hCh
  cases hp : hasC L k with
  | false =>
    rw [dpV_no hp]
    go_enter Tryd.func14, Tryd.ntmps14
    go_wp2_with (first | (go_at_call 43; refine (hasCell_any a L cap k _ (HCh.out.ext (by (repeat (first | (with_reducible exact Below.refl _ _) | (with_reducible refine Ext.drewN ?_ _) | (with_reducible refine Below.drew ?_) | (with_reducible refine Ext.alloc ?_ _) | (with_reducible refine Ext.setCell ?_ (by simp; try omega) _) | (with_reducible refine Ext.trans ?_ (by assumption)) | (with_reducible assumption) | exact Below.refl _ _)))) hs (HL.out.ext (by (repeat (first | (with_reducible exact Below.refl _ _) | (with_reducible refine Ext.drewN ?_ _) | (with_reducible refine Below.drew ?_) | (with_reducible refine Ext.alloc ?_ _) | (with_reducible refine Ext.setCell ?_ (by simp; try omega) _) | (with_reducible refine Ext.trans ?_ (by assumption)) | (with_reducible assumption) | exact Below.refl _ _))))).mono ?_; rintro e v1 ⟨rfl, bv1⟩; obtain ⟨sv1, zv1, cv1, fv1⟩ := bcell bv1; (try simp only [World.size_alloc, World.size_setCell, World.size_drew] at sv1); rw [hp]))
    go_ret
    exact ⟨rfl, by (repeat (first | (with_reducible exact Below.refl _ _) | (with_reducible refine Ext.drewN ?_ _) | (with_reducible refine Below.drew ?_) | (with_reducible refine Ext.alloc ?_ _) | (with_reducible refine Ext.setCell ?_ (by simp; try omega) _) | (with_reducible refine Ext.trans ?_ (by assumption)) | (with_reducible assumption) | exact Below.refl _ _))⟩
  | true =>
    rw [dpV_yes hp]
    have hy := Lib.hid (hasC_yes hp)
    go_enter Tryd.func14, Tryd.ntmps14
    go_wp2_with (first | (go_at_call 43; refine (hasCell_any a L cap k _ (HCh.out.ext (by (repeat (first | (with_reducible exact Below.refl _ _) | (with_reducible refine Ext.drewN ?_ _) | (with_reducible refine Below.drew ?_) | (with_reducible refine Ext.alloc ?_ _) | (with_reducible refine Ext.setCell ?_ (by simp; try omega) _) | (with_reducible refine Ext.trans ?_ (by assumption)) | (with_reducible assumption) | exact Below.refl _ _)))) hs (HL.out.ext (by (repeat (first | (with_reducible exact Below.refl _ _) | (with_reducible refine Ext.drewN ?_ _) | (with_reducible refine Below.drew ?_) | (with_reducible refine Ext.alloc ?_ _) | (with_reducible refine Ext.setCell ?_ (by simp; try omega) _) | (with_reducible refine Ext.trans ?_ (by assumption)) | (with_reducible assumption) | exact Below.refl _ _))))).mono ?_; rintro e v1 ⟨rfl, bv1⟩; obtain ⟨sv1, zv1, cv1, fv1⟩ := bcell bv1; (try simp only [World.size_alloc, World.size_setCell, World.size_drew] at sv1); rw [hp]) | (go_at_call 45; refine (total_dp a L cap k _ hy.out.1 hy.out.2 hs (HL.out.ext (by (repeat (first | (with_reducible exact Below.refl _ _) | (with_reducible refine Ext.drewN ?_ _) | (with_reducible refine Below.drew ?_) | (with_reducible refine Ext.alloc ?_ _) | (with_reducible refine Ext.setCell ?_ (by simp; try omega) _) | (with_reducible refine Ext.trans ?_ (by assumption)) | (with_reducible assumption) | exact Below.refl _ _)))) (dp_addOK hy.out.1)).mono ?_; rintro e v2 ⟨rfl, bv2⟩))
    go_ret
    exact ⟨rfl, by (repeat (first | (with_reducible exact Below.refl _ _) | (with_reducible refine Ext.drewN ?_ _) | (with_reducible refine Below.drew ?_) | (with_reducible refine Ext.alloc ?_ _) | (with_reducible refine Ext.setCell ?_ (by simp; try omega) _) | (with_reducible refine Ext.trans ?_ (by assumption)) | (with_reducible assumption) | exact Below.refl _ _))⟩
theorem implElementCount_any (a : Option Addr) (L : List Cel) (cap : Nat) (k : Int) (w : World) (hCh : ChipW w) (hs : szCs L ≤ 1048576) (hL : CelsAt w.heap.size w a L) :
    Calls Tryd.prog 36 #[.agg #[.slice a L.length cap], .int .i64 k] w fun e w' => e = .returned (.int .i64 (ctV L k)) ∧ Below w.heap.size w w' := by
  have hmf : ∀ (fn : Fn) (first cap : Array Value) (w : World), (Instr.makeFunc fn first cap).run Tryd.prog w = .ok (.func fn first cap) w := fun _ _ _ _ => rfl
  have HL := Lib.hid hL
  have HCh := Lib.hid hCh
  clear hL hCh
  cases hp : hasC L k with
  | false =>
    rw [ctV_no hp]
    go_enter Tryd.func36, Tryd.ntmps36
    go_wp2_with (first | (go_at_call 43; refine (hasCell_any a L cap k _ (HCh.out.ext (by (repeat (first | (with_reducible exact Below.refl _ _) | (with_reducible refine Ext.drewN ?_ _) | (with_reducible refine Below.drew ?_) | (with_reducible refine Ext.alloc ?_ _) | (with_reducible refine Ext.setCell ?_ (by simp; try omega) _) | (with_reducible refine Ext.trans ?_ (by assumption)) | (with_reducible assumption) | exact Below.refl _ _)))) hs (HL.out.ext (by (repeat (first | (with_reducible exact Below.refl _ _) | (with_reducible refine Ext.drewN ?_ _) | (with_reducible refine Below.drew ?_) | (with_reducible refine Ext.alloc ?_ _) | (with_reducible refine Ext.setCell ?_ (by simp; try omega) _) | (with_reducible refine Ext.trans ?_ (by assumption)) | (with_reducible assumption) | exact Below.refl _ _))))).mono ?_; rintro e v1 ⟨rfl, bv1⟩; obtain ⟨sv1, zv1, cv1, fv1⟩ := bcell bv1; (try simp only [World.size_alloc, World.size_setCell, World.size_drew] at sv1); rw [hp]))
    go_ret
    exact ⟨rfl, by (repeat (first | (with_reducible exact Below.refl _ _) | (with_reducible refine Ext.drewN ?_ _) | (with_reducible refine Below.drew ?_) | (with_reducible refine Ext.alloc ?_ _) | (with_reducible refine Ext.setCell ?_ (by simp; try omega) _) | (with_reducible refine Ext.trans ?_ (by assumption)) | (with_reducible assumption) | exact Below.refl _ _))⟩
  | true =>
    rw [ctV_yes hp]
    have hy := Lib.hid (hasC_yes hp)
    go_enter Tryd.func36, Tryd.ntmps36
    go_wp2_with (first | (go_at_call 43; refine (hasCell_any a L cap k _ (HCh.out.ext (by (repeat (first | (with_reducible exact Below.refl _ _) | (with_reducible refine Ext.drewN ?_ _) | (with_reducible refine Below.drew ?_) | (with_reducible refine Ext.alloc ?_ _) | (with_reducible refine Ext.setCell ?_ (by simp; try omega) _) | (with_reducible refine Ext.trans ?_ (by assumption)) | (with_reducible assumption) | exact Below.refl _ _)))) hs (HL.out.ext (by (repeat (first | (with_reducible exact Below.refl _ _) | (with_reducible refine Ext.drewN ?_ _) | (with_reducible refine Below.drew ?_) | (with_reducible refine Ext.alloc ?_ _) | (with_reducible refine Ext.setCell ?_ (by simp; try omega) _) | (with_reducible refine Ext.trans ?_ (by assumption)) | (with_reducible assumption) | exact Below.refl _ _))))).mono ?_; rintro e v1 ⟨rfl, bv1⟩; obtain ⟨sv1, zv1, cv1, fv1⟩ := bcell bv1; (try simp only [World.size_alloc, World.size_setCell, World.size_drew] at sv1); rw [hp]) | (go_at_call 45; refine (total_ct a L cap k _ hy.out.1 hy.out.2 hs (HL.out.ext (by (repeat (first | (with_reducible exact Below.refl _ _) | (with_reducible refine Ext.drewN ?_ _) | (with_reducible refine Below.drew ?_) | (with_reducible refine Ext.alloc ?_ _) | (with_reducible refine Ext.setCell ?_ (by simp; try omega) _) | (with_reducible refine Ext.trans ?_ (by assumption)) | (with_reducible assumption) | exact Below.refl _ _)))) (ct_addOK hy.out.1)).mono ?_; rintro e v2 ⟨rfl, bv2⟩))
    go_ret
    exact ⟨rfl, by (repeat (first | (with_reducible exact Below.refl _ _) | (with_reducible refine Ext.drewN ?_ _) | (with_reducible refine Below.drew ?_) | (with_reducible refine Ext.alloc ?_ _) | (with_reducible refine Ext.setCell ?_ (by simp; try omega) _) | (with_reducible refine Ext.trans ?_ (by assumption)) | (with_reducible assumption) | exact Below.refl _ _))⟩
end Go.Proofs.YtciodcknobccdaaDoor
