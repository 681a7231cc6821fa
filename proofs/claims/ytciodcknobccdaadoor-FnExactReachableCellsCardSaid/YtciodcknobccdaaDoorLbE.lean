/- The laws' comparisons of libraries that are the same. Condition: the cells' parts are in memory. -/
import Derived.Test.YtciodcknobccdaaDoorLbM
import Derived.StillTailTactics
namespace Go.Proofs.YtciodcknobccdaaDoor
open Go.RowKit
set_option linter.unusedVariables false
set_option linter.unusedSimpArgs false
attribute [local go_sem ↓] Go.wp_at_zero Go.wp_at_succ

theorem eqRB_same (a b c d : Int) : eqRB a b c d a b c d = true := by simp [eqRB]
theorem eqPB_same (a b : Int) : eqPB a b a b = true := by simp [eqPB]
theorem eqTB_same (a b c : Int) : eqTB a b c a b c = true := by simp [eqTB]
theorem eqShape_any (l a b c d : Int) (w : World) : Calls Tryd.prog 145 #[.agg #[.int .i64 l, .int .i64 a, .int .i64 b, .int .i64 c, .int .i64 d], .agg #[.int .i64 l, .int .i64 a, .int .i64 b, .int .i64 c, .int .i64 d]] w fun e w' => e = .returned (.bool true) ∧ Below w.heap.size w w' := by
  have he := eqRB_same a b c d
  go_enter Tryd.func145, Tryd.ntmps145
  go_wp2_with (first | (go_at_call 109; refine (eqRect_any _ _ _ _ _ _ _ _ _).mono ?_; rintro e v1 ⟨rfl, bv1⟩; obtain ⟨sv1, zv1, cv1, fv1⟩ := bcell bv1; (try simp only [World.size_alloc, World.size_setCell, World.size_drew] at sv1); rw [he]))
  go_ret
  exact ⟨rfl, by (repeat (first | (with_reducible exact Below.refl _ _) | (with_reducible refine Ext.drewN ?_ _) | (with_reducible refine Below.drew ?_) | (with_reducible refine Ext.alloc ?_ _) | (with_reducible refine Ext.setCell ?_ (by simp; try omega) _) | (with_reducible refine Ext.trans ?_ (by assumption)) | (with_reducible assumption) | exact Below.refl _ _))⟩
theorem eqLabel_any (l a b : Int) (s : ByteArray) (w : World) : Calls Tryd.prog 146 #[.agg #[.int .i64 l, .int .i64 a, .int .i64 b, .string s], .agg #[.int .i64 l, .int .i64 a, .int .i64 b, .string s]] w fun e w' => e = .returned (.bool true) ∧ Below w.heap.size w w' := by
  have he := eqPB_same a b
  go_enter Tryd.func146, Tryd.ntmps146
  go_wp2_with (first | (go_at_call 164; refine (eqPoint_any _ _ _ _ _).mono ?_; rintro e v1 ⟨rfl, bv1⟩; obtain ⟨sv1, zv1, cv1, fv1⟩ := bcell bv1; (try simp only [World.size_alloc, World.size_setCell, World.size_drew] at sv1); rw [he]))
  go_ret
  exact ⟨rfl, by (repeat (first | (with_reducible exact Below.refl _ _) | (with_reducible refine Ext.drewN ?_ _) | (with_reducible refine Below.drew ?_) | (with_reducible refine Ext.alloc ?_ _) | (with_reducible refine Ext.setCell ?_ (by simp; try omega) _) | (with_reducible refine Ext.trans ?_ (by assumption)) | (with_reducible assumption) | exact Below.refl _ _))⟩
theorem eqInstance_any (c o x y m n p q : Int) (w : World) : Calls Tryd.prog 147 #[.agg #[.int .i64 c, .int .i64 o, .int .i64 x, .int .i64 y, .int .i64 m, .int .i64 n, .int .i64 p, .int .i64 q], .agg #[.int .i64 c, .int .i64 o, .int .i64 x, .int .i64 y, .int .i64 m, .int .i64 n, .int .i64 p, .int .i64 q]] w fun e w' => e = .returned (.bool true) ∧ Below w.heap.size w w' := by
  have he := eqTB_same o x y
  go_enter Tryd.func147, Tryd.ntmps147
  go_wp2_with (first | (go_at_call 24; refine (eqTransform_any _ _ _ _ _ _ _).mono ?_; rintro e v1 ⟨rfl, bv1⟩; obtain ⟨sv1, zv1, cv1, fv1⟩ := bcell bv1; (try simp only [World.size_alloc, World.size_setCell, World.size_drew] at sv1); rw [he]))
  go_ret
  exact ⟨rfl, by (repeat (first | (with_reducible exact Below.refl _ _) | (with_reducible refine Ext.drewN ?_ _) | (with_reducible refine Below.drew ?_) | (with_reducible refine Ext.alloc ?_ _) | (with_reducible refine Ext.setCell ?_ (by simp; try omega) _) | (with_reducible refine Ext.trans ?_ (by assumption)) | (with_reducible assumption) | exact Below.refl _ _))⟩

set_option maxRecDepth 100000 in
set_option maxHeartbeats 4000000 in
theorem eqShapeS_any (a a' : Option Addr) (l : List Shp) (cap cap' : Nat) (w : World) (hlen : l.length ≤ 1048576) (hL : LiesAt 5 Shp.cs w.heap.size w a l) (hL' : LiesAt 5 Shp.cs w.heap.size w a' l) :
    Calls Tryd.prog 124 #[.slice a l.length cap, .slice a' l.length cap'] w fun e w' => e = .returned (.bool true) ∧ Below w.heap.size w w' := by
  have HL := Lib.hid hL
  have HL' := Lib.hid hL'
  clear hL hL'
  go_enter Tryd.func124, Tryd.ntmps124
  go_wp2_with fail
  go_loopw [5] (fun s5 wr => ∃ i : Nat, i ≤ l.length ∧ s5 = .int .i64 (i : Nat) ∧ Below w.heap.size w wr) (fun s5 _ => l.length - (intOf s5).toNat)
  case atStart => exact ⟨0, by omega, rfl, Below.refl _ _⟩
  case round =>
    obtain ⟨i, hik, rfl, hW⟩ := hrel
    by_cases hlt : i < l.length
    · obtain ⟨s, hs⟩ := get_some hlt
      obtain ⟨b, off, rfl, hb, c0, c1, c2, c3, c4⟩ := shp_at (HL.out.below hW) hs
      obtain ⟨b', off', rfl, hb', d0, d1, d2, d3, d4⟩ := shp_at (HL'.out.below hW) hs
      have q3 : ((i : Nat) : Int) < (l.length : Int) := by omega
      have q0 : (0 : Int) ≤ ((i : Nat) : Int) := by omega
      go_upto_region 6 with fail
      go_still_tail 8, (by kernel_rfl)
      change wpList _ _ _ _ _ wr.drew
      obtain ⟨wd, hwd⟩ : ∃ wd, wd = wr.drew := ⟨_, rfl⟩
      have Bd : Below wr.heap.size wr wd := by rw [hwd]; exact (Below.refl _ _).drew
      rw [← hwd]
      clear hwd
      go_wp2_with fail
      refine (eqShape_any s.l s.x s.y s.u s.v _).mono ?_
      rintro e w3 ⟨rfl, bw3⟩
      have B3 := Ext.trans (Ext.trans hW Bd) bw3
      go_wp2_with fail
      go_roundw
      case rel => exact ⟨i + 1, by omega, by go_num, B3⟩
      case measure => simp [intOf]; omega
    · have q3 : ¬ ((i : Nat) : Int) < (l.length : Int) := by omega
      go_wp2_with fail
      go_ret
      exact ⟨rfl, hW⟩
set_option maxRecDepth 100000 in
set_option maxHeartbeats 4000000 in
theorem eqLabelS_any (a a' : Option Addr) (l : List Lbl) (cap cap' : Nat) (w : World) (hlen : l.length ≤ 1048576) (hL : LiesAt 4 Lbl.cs w.heap.size w a l) (hL' : LiesAt 4 Lbl.cs w.heap.size w a' l) :
    Calls Tryd.prog 125 #[.slice a l.length cap, .slice a' l.length cap'] w fun e w' => e = .returned (.bool true) ∧ Below w.heap.size w w' := by
  have HL := Lib.hid hL
  have HL' := Lib.hid hL'
  clear hL hL'
  go_enter Tryd.func125, Tryd.ntmps125
  go_wp2_with fail
  go_loopw [5] (fun s5 wr => ∃ i : Nat, i ≤ l.length ∧ s5 = .int .i64 (i : Nat) ∧ Below w.heap.size w wr) (fun s5 _ => l.length - (intOf s5).toNat)
  case atStart => exact ⟨0, by omega, rfl, Below.refl _ _⟩
  case round =>
    obtain ⟨i, hik, rfl, hW⟩ := hrel
    by_cases hlt : i < l.length
    · obtain ⟨s, hs⟩ := get_some hlt
      obtain ⟨b, off, rfl, hb, c0, c1, c2, c3⟩ := lbl_at (HL.out.below hW) hs
      obtain ⟨b', off', rfl, hb', d0, d1, d2, d3⟩ := lbl_at (HL'.out.below hW) hs
      have q3 : ((i : Nat) : Int) < (l.length : Int) := by omega
      have q0 : (0 : Int) ≤ ((i : Nat) : Int) := by omega
      go_upto_region 6 with fail
      go_still_tail 8, (by kernel_rfl)
      change wpList _ _ _ _ _ wr.drew
      obtain ⟨wd, hwd⟩ : ∃ wd, wd = wr.drew := ⟨_, rfl⟩
      have Bd : Below wr.heap.size wr wd := by rw [hwd]; exact (Below.refl _ _).drew
      rw [← hwd]
      clear hwd
      go_wp2_with fail
      refine (eqLabel_any s.l s.x s.y s.s _).mono ?_
      rintro e w3 ⟨rfl, bw3⟩
      have B3 := Ext.trans (Ext.trans hW Bd) bw3
      go_wp2_with fail
      go_roundw
      case rel => exact ⟨i + 1, by omega, by go_num, B3⟩
      case measure => simp [intOf]; omega
    · have q3 : ¬ ((i : Nat) : Int) < (l.length : Int) := by omega
      go_wp2_with fail
      go_ret
      exact ⟨rfl, hW⟩
set_option maxRecDepth 100000 in
set_option maxHeartbeats 4000000 in
theorem eqInstanceS_any (a a' : Option Addr) (l : List Ins) (cap cap' : Nat) (w : World) (hlen : l.length ≤ 1048576) (hL : LiesAt 8 Ins.cs w.heap.size w a l) (hL' : LiesAt 8 Ins.cs w.heap.size w a' l) :
    Calls Tryd.prog 126 #[.slice a l.length cap, .slice a' l.length cap'] w fun e w' => e = .returned (.bool true) ∧ Below w.heap.size w w' := by
  have HL := Lib.hid hL
  have HL' := Lib.hid hL'
  clear hL hL'
  go_enter Tryd.func126, Tryd.ntmps126
  go_wp2_with fail
  go_loopw [5] (fun s5 wr => ∃ i : Nat, i ≤ l.length ∧ s5 = .int .i64 (i : Nat) ∧ Below w.heap.size w wr) (fun s5 _ => l.length - (intOf s5).toNat)
  case atStart => exact ⟨0, by omega, rfl, Below.refl _ _⟩
  case round =>
    obtain ⟨i, hik, rfl, hW⟩ := hrel
    by_cases hlt : i < l.length
    · obtain ⟨s, hs⟩ := get_some hlt
      obtain ⟨b, off, rfl, hb, c0, c1, c2, c3, c4, c5, c6, c7⟩ := ins_at (HL.out.below hW) hs
      obtain ⟨b', off', rfl, hb', d0, d1, d2, d3, d4, d5, d6, d7⟩ := ins_at (HL'.out.below hW) hs
      have q3 : ((i : Nat) : Int) < (l.length : Int) := by omega
      have q0 : (0 : Int) ≤ ((i : Nat) : Int) := by omega
      go_upto_region 6 with fail
      go_still_tail 8, (by kernel_rfl)
      change wpList _ _ _ _ _ wr.drew
      obtain ⟨wd, hwd⟩ : ∃ wd, wd = wr.drew := ⟨_, rfl⟩
      have Bd : Below wr.heap.size wr wd := by rw [hwd]; exact (Below.refl _ _).drew
      rw [← hwd]
      clear hwd
      go_wp2_with fail
      refine (eqInstance_any s.c s.o s.x s.y s.m s.n s.p s.q _).mono ?_
      rintro e w3 ⟨rfl, bw3⟩
      have B3 := Ext.trans (Ext.trans hW Bd) bw3
      go_wp2_with fail
      go_roundw
      case rel => exact ⟨i + 1, by omega, by go_num, B3⟩
      case measure => simp [intOf]; omega
    · have q3 : ¬ ((i : Nat) : Int) < (l.length : Int) := by omega
      go_wp2_with fail
      go_ret
      exact ⟨rfl, hW⟩
set_option maxRecDepth 100000 in
set_option maxHeartbeats 4000000 in
theorem eqCell_any (c : Cel) (a1 a2 a3 b1 b2 b3 : Option Addr) (k1 k2 k3 j1 j2 j3 : Nat) (w : World) (ha : c.a.length ≤ 1048576) (hb : c.b.length ≤ 1048576) (hd : c.d.length ≤ 1048576) (hC : CelAt w.heap.size w a1 a2 a3 c) (hC' : CelAt w.heap.size w b1 b2 b3 c) :
    Calls Tryd.prog 96 #[.agg #[.string c.s, .slice a1 c.a.length k1, .slice a2 c.b.length k2, .slice a3 c.d.length k3], .agg #[.string c.s, .slice b1 c.a.length j1, .slice b2 c.b.length j2, .slice b3 c.d.length j3]] w fun e w' => e = .returned (.bool true) ∧ Below w.heap.size w w' := by
  have HC := Lib.hid hC
  have HC' := Lib.hid hC'
  clear hC hC'
  go_enter Tryd.func96, Tryd.ntmps96
  go_wp2_with (first | (go_at_call 124; refine (eqShapeS_any _ _ c.a _ _ _ ha (HC.out.1.ext (by (repeat (first | (with_reducible exact Below.refl _ _) | (with_reducible refine Ext.drewN ?_ _) | (with_reducible refine Below.drew ?_) | (with_reducible refine Ext.alloc ?_ _) | (with_reducible refine Ext.setCell ?_ (by simp; try omega) _) | (with_reducible refine Ext.trans ?_ (by assumption)) | (with_reducible assumption) | exact Below.refl _ _)))) (HC'.out.1.ext (by (repeat (first | (with_reducible exact Below.refl _ _) | (with_reducible refine Ext.drewN ?_ _) | (with_reducible refine Below.drew ?_) | (with_reducible refine Ext.alloc ?_ _) | (with_reducible refine Ext.setCell ?_ (by simp; try omega) _) | (with_reducible refine Ext.trans ?_ (by assumption)) | (with_reducible assumption) | exact Below.refl _ _))))).mono ?_; rintro e v1 ⟨rfl, bv1⟩; obtain ⟨sv1, zv1, cv1, fv1⟩ := bcell bv1; (try simp only [World.size_alloc, World.size_setCell, World.size_drew] at sv1); (try have nv1a : w.heap.size < v1.heap.size := by omega); (try have nv1b : w.heap.size + 1 < v1.heap.size := by omega)) | (go_at_call 125; refine (eqLabelS_any _ _ c.b _ _ _ hb (HC.out.2.1.ext (by (repeat (first | (with_reducible exact Below.refl _ _) | (with_reducible refine Ext.drewN ?_ _) | (with_reducible refine Below.drew ?_) | (with_reducible refine Ext.alloc ?_ _) | (with_reducible refine Ext.setCell ?_ (by simp; try omega) _) | (with_reducible refine Ext.trans ?_ (by assumption)) | (with_reducible assumption) | exact Below.refl _ _)))) (HC'.out.2.1.ext (by (repeat (first | (with_reducible exact Below.refl _ _) | (with_reducible refine Ext.drewN ?_ _) | (with_reducible refine Below.drew ?_) | (with_reducible refine Ext.alloc ?_ _) | (with_reducible refine Ext.setCell ?_ (by simp; try omega) _) | (with_reducible refine Ext.trans ?_ (by assumption)) | (with_reducible assumption) | exact Below.refl _ _))))).mono ?_; rintro e v2 ⟨rfl, bv2⟩; obtain ⟨sv2, zv2, cv2, fv2⟩ := bcell bv2; (try simp only [World.size_alloc, World.size_setCell, World.size_drew] at sv2); (try have nv2a : w.heap.size < v2.heap.size := by omega); (try have nv2b : w.heap.size + 1 < v2.heap.size := by omega)) | (go_at_call 126; refine (eqInstanceS_any _ _ c.d _ _ _ hd (HC.out.2.2.ext (by (repeat (first | (with_reducible exact Below.refl _ _) | (with_reducible refine Ext.drewN ?_ _) | (with_reducible refine Below.drew ?_) | (with_reducible refine Ext.alloc ?_ _) | (with_reducible refine Ext.setCell ?_ (by simp; try omega) _) | (with_reducible refine Ext.trans ?_ (by assumption)) | (with_reducible assumption) | exact Below.refl _ _)))) (HC'.out.2.2.ext (by (repeat (first | (with_reducible exact Below.refl _ _) | (with_reducible refine Ext.drewN ?_ _) | (with_reducible refine Below.drew ?_) | (with_reducible refine Ext.alloc ?_ _) | (with_reducible refine Ext.setCell ?_ (by simp; try omega) _) | (with_reducible refine Ext.trans ?_ (by assumption)) | (with_reducible assumption) | exact Below.refl _ _))))).mono ?_; rintro e v3 ⟨rfl, bv3⟩))
  go_ret
  exact ⟨rfl, by (repeat (first | (with_reducible exact Below.refl _ _) | (with_reducible refine Ext.drewN ?_ _) | (with_reducible refine Below.drew ?_) | (with_reducible refine Ext.alloc ?_ _) | (with_reducible refine Ext.setCell ?_ (by simp; try omega) _) | (with_reducible refine Ext.trans ?_ (by assumption)) | (with_reducible assumption) | exact Below.refl _ _))⟩
set_option maxRecDepth 100000 in
set_option maxHeartbeats 4000000 in
theorem eqCellS_any (a a' : Option Addr) (L : List Cel) (cap cap' : Nat) (w : World) (hs : szCs L ≤ 1048576) (hL : CelsAt w.heap.size w a L) (hL' : CelsAt w.heap.size w a' L) :
    Calls Tryd.prog 65 #[.slice a L.length cap, .slice a' L.length cap'] w fun e w' => e = .returned (.bool true) ∧ Below w.heap.size w w' := by
  have HL := Lib.hid hL
  have HL' := Lib.hid hL'
  have hlen := sz_len hs
  have HZ := Lib.hid hs
  clear hL hL' hs
  go_enter Tryd.func65, Tryd.ntmps65
  go_wp2_with fail
  go_loopw [5] (fun s5 wr => ∃ i : Nat, i ≤ L.length ∧ s5 = .int .i64 (i : Nat) ∧ Below w.heap.size w wr) (fun s5 _ => L.length - (intOf s5).toNat)
  case atStart => exact ⟨0, by omega, rfl, Below.refl _ _⟩
  case round =>
    obtain ⟨i, hik, rfl, hW⟩ := hrel
    by_cases hlt : i < L.length
    · obtain ⟨c, hc⟩ := get_some hlt
      obtain ⟨b, off, a1, a2, a3, k1, k2, k3, rfl, hb, c0, c1, c2, c3, hC⟩ := (HL.out.below hW) i c hc
      obtain ⟨b', off', b1, b2, b3, j1, j2, j3, rfl, hb', d0, d1, d2, d3, hC'⟩ := (HL'.out.below hW) i c hc
      obtain ⟨hs1, hs2, hs3, hs4, hs5⟩ := sz_at HZ.out hc
      have HC := Lib.hid (hC.mono hW.size)
      have HC' := Lib.hid (hC'.mono hW.size)
      clear hC hC'
      have q3 : ((i : Nat) : Int) < (L.length : Int) := by omega
      have q0 : (0 : Int) ≤ ((i : Nat) : Int) := by omega
      go_upto_region 6 with fail
      go_still_tail 8, (by kernel_rfl)
      change wpList _ _ _ _ _ wr.drew
      obtain ⟨wd, hwd⟩ : ∃ wd, wd = wr.drew := ⟨_, rfl⟩
      have Bd : Below wr.heap.size wr wd := by rw [hwd]; exact (Below.refl _ _).drew
      rw [← hwd]
      clear hwd
      go_wp2_with fail
      refine (eqCell_any c _ _ _ _ _ _ _ _ _ _ _ _ _ hs2 hs3 hs4 (HC.out.ext Bd) (HC'.out.ext Bd)).mono ?_
      rintro e w3 ⟨rfl, bw3⟩
      have B3 := Ext.trans (Ext.trans hW Bd) bw3
      go_wp2_with fail
      go_roundw
      case rel => exact ⟨i + 1, by omega, by go_num, B3⟩
      case measure => simp [intOf]; omega
    · have q3 : ¬ ((i : Nat) : Int) < (L.length : Int) := by omega
      go_wp2_with fail
      go_ret
      exact ⟨rfl, hW⟩
theorem eqLibrary_any (a a' : Option Addr) (L : List Cel) (cap cap' : Nat) (w : World) (hs : szCs L ≤ 1048576) (hL : CelsAt w.heap.size w a L) (hL' : CelsAt w.heap.size w a' L) :
    Calls Tryd.prog 28 #[.agg #[.slice a L.length cap], .agg #[.slice a' L.length cap']] w fun e w' => e = .returned (.bool true) ∧ Below w.heap.size w w' := by
  have HL := Lib.hid hL
  have HL' := Lib.hid hL'
  clear hL hL'
  go_enter Tryd.func28, Tryd.ntmps28
  go_wp2_with (first | (go_at_call 65; refine (eqCellS_any _ _ L _ _ _ hs (HL.out.ext (by (repeat (first | (with_reducible exact Below.refl _ _) | (with_reducible refine Ext.drewN ?_ _) | (with_reducible refine Below.drew ?_) | (with_reducible refine Ext.alloc ?_ _) | (with_reducible refine Ext.setCell ?_ (by simp; try omega) _) | (with_reducible refine Ext.trans ?_ (by assumption)) | (with_reducible assumption) | exact Below.refl _ _)))) (HL'.out.ext (by (repeat (first | (with_reducible exact Below.refl _ _) | (with_reducible refine Ext.drewN ?_ _) | (with_reducible refine Below.drew ?_) | (with_reducible refine Ext.alloc ?_ _) | (with_reducible refine Ext.setCell ?_ (by simp; try omega) _) | (with_reducible refine Ext.trans ?_ (by assumption)) | (with_reducible assumption) | exact Below.refl _ _))))).mono ?_; rintro e v1 ⟨rfl, bv1⟩))
  go_ret
  exact ⟨rfl, by (repeat (first | (with_reducible exact Below.refl _ _) | (with_reducible refine Ext.drewN ?_ _) | (with_reducible refine Below.drew ?_) | (with_reducible refine Ext.alloc ?_ _) | (with_reducible refine Ext.setCell ?_ (by simp; try omega) _) | (with_reducible refine Ext.trans ?_ (by assumption)) | (with_reducible assumption) | exact Below.refl _ _))⟩
end Go.Proofs.YtciodcknobccdaaDoor
