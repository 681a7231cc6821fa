/- The walk of FnExactElementCount. Conditions: the library's cells are in memory; impl.chip holds its value. -/
import Derived.Test.YtciodcknobccdaaDoorLbS
import Derived.Test.YtciodcknobccdaaDoorLbC
import Derived.Test.YtciodcknobccdaaDoorLbE
import Derived.Test.YtciodcknobccdaaDoorLcH
namespace Go.Proofs.YtciodcknobccdaaDoor
open Go.RowKit
set_option linter.unusedVariables false
set_option linter.unusedSimpArgs false
attribute [local go_sem ↓] Go.wp_at_zero Go.wp_at_succ

set_option maxRecDepth 100000 in
set_option maxHeartbeats 8000000 in
theorem walkElementCount (a : Option Addr) (L : List Cel) (cap : Nat) (k : Int) (w : World) (hO : LensOK L) (hL : CelsAt w.heap.size w a L) (hCh : ChipW w) :
    Calls Tryd.prog 9 #[.agg #[.slice a L.length cap], .int .i64 k] w fun e w' => e = .returned (.bool true) ∧ Below w.heap.size w w' := by
  have HL := Lib.hid hL
  have HCh := Lib.hid hCh
  have HO := Lib.hid hO
  clear hL hCh hO
  by_cases hz : szCs L ≤ 1048576
  case neg =>
    have HZ := Lib.hid (leftI_f (v := 1048576) (n := szCs L) (by omega))
    go_enter Tryd.func9, Tryd.ntmps9
    go_wp2_with fail
    refine (szLibrary_any a L cap _ _ (by decide) (by decide) HO.out (HL.out.ext (by (repeat (first | (with_reducible exact Below.refl _ _) | (with_reducible refine Ext.drewN ?_ _) | (with_reducible refine Below.drew ?_) | (with_reducible refine Ext.alloc ?_ _) | (with_reducible refine Ext.setCell ?_ (by simp; try omega) _) | (with_reducible refine Ext.trans ?_ (by assumption)) | (with_reducible assumption) | exact Below.refl _ _))))).mono ?_
    rintro e v0 ⟨rfl, bv0⟩
    rw [HZ.out]
    go_wp2_with fail
    go_ret
    exact ⟨rfl, by (repeat (first | (with_reducible exact Below.refl _ _) | (with_reducible refine Ext.drewN ?_ _) | (with_reducible refine Below.drew ?_) | (with_reducible refine Ext.alloc ?_ _) | (with_reducible refine Ext.setCell ?_ (by simp; try omega) _) | (with_reducible refine Ext.trans ?_ (by assumption)) | (with_reducible assumption) | exact Below.refl _ _))⟩
  have HZ := Lib.hid (leftI_t (v := 1048576) (n := szCs L) (by omega))
  have HZS := Lib.hid hz
  have q0 : ¬ (1048576 : Int) - (szCs L : Int) < 0 := by omega
  go_enter Tryd.func9, Tryd.ntmps9
  go_wp2_with fail
  refine (szLibrary_any a L cap _ _ (by decide) (by decide) HO.out (HL.out.ext (by (repeat (first | (with_reducible exact Below.refl _ _) | (with_reducible refine Ext.drewN ?_ _) | (with_reducible refine Below.drew ?_) | (with_reducible refine Ext.alloc ?_ _) | (with_reducible refine Ext.setCell ?_ (by simp; try omega) _) | (with_reducible refine Ext.trans ?_ (by assumption)) | (with_reducible assumption) | exact Below.refl _ _))))).mono ?_
  rintro e v0 ⟨rfl, bv0⟩
  rw [HZ.out]
  have W0 := Lib.hid (show Below w.heap.size w v0 by (repeat (first | (with_reducible exact Below.refl _ _) | (with_reducible refine Ext.drewN ?_ _) | (with_reducible refine Below.drew ?_) | (with_reducible refine Ext.alloc ?_ _) | (with_reducible refine Ext.setCell ?_ (by simp; try omega) _) | (with_reducible refine Ext.trans ?_ (by assumption)) | (with_reducible assumption) | exact Below.refl _ _)))
  have X0 := Lib.hid (show BoxL w.heap.size v0 a L.length cap from ⟨Nat.lt_of_lt_of_le (by simp) bv0.size, keepC bv0 (by simp [go_sem])⟩)
  obtain ⟨l0, c0⟩ := X0.out
  clear bv0
  go_wp2_with fail
  refine (toLibrary_any a L cap _ HZS.out (HL.out.ext (by have b := W0.out; (repeat (first | (with_reducible exact Below.refl _ _) | (with_reducible refine Ext.drewN ?_ _) | (with_reducible refine Below.drew ?_) | (with_reducible refine Ext.alloc ?_ _) | (with_reducible refine Ext.setCell ?_ (by simp; try omega) _) | (with_reducible refine Ext.trans ?_ (by assumption)) | (with_reducible assumption) | exact Below.refl _ _))))).mono ?_
  rintro e v1 ⟨⟨h1, x1, y1, z1, rfl, O1⟩, bv1⟩
  have C1 := Lib.hid O1.cels
  have W1 := Lib.hid (show Below w.heap.size w v1 by have b := W0.out; (repeat (first | (with_reducible exact Below.refl _ _) | (with_reducible refine Ext.drewN ?_ _) | (with_reducible refine Below.drew ?_) | (with_reducible refine Ext.alloc ?_ _) | (with_reducible refine Ext.setCell ?_ (by simp; try omega) _) | (with_reducible refine Ext.trans ?_ (by assumption)) | (with_reducible assumption) | exact Below.refl _ _)))
  have X1 := Lib.hid (X0.out.below (B := v0.heap.size) (show Below v0.heap.size v0 v1 by (repeat (first | (with_reducible exact Below.refl _ _) | (with_reducible refine Ext.drewN ?_ _) | (with_reducible refine Below.drew ?_) | (with_reducible refine Ext.alloc ?_ _) | (with_reducible refine Ext.setCell ?_ (by simp; try omega) _) | (with_reducible refine Ext.trans ?_ (by assumption)) | (with_reducible assumption) | exact Below.refl _ _))) (Nat.le_refl _))
  clear l0 c0
  obtain ⟨l1, c1⟩ := X1.out
  clear O1 bv1
  go_wp2_with fail
  refine (specCount_o (some ⟨h1, 0, none⟩) L L.length k _ HZS.out (C1.out.ext (by (repeat (first | (with_reducible exact Below.refl _ _) | (with_reducible refine Ext.drewN ?_ _) | (with_reducible refine Below.drew ?_) | (with_reducible refine Ext.alloc ?_ _) | (with_reducible refine Ext.setCell ?_ (by simp; try omega) _) | (with_reducible refine Ext.trans ?_ (by assumption)) | (with_reducible assumption) | exact Below.refl _ _))))).mono ?_
  rintro e v2 ⟨rfl, bv2⟩
  have W2 := Lib.hid (show Below w.heap.size w v2 by have b := W1.out; (repeat (first | (with_reducible exact Below.refl _ _) | (with_reducible refine Ext.drewN ?_ _) | (with_reducible refine Below.drew ?_) | (with_reducible refine Ext.alloc ?_ _) | (with_reducible refine Ext.setCell ?_ (by simp; try omega) _) | (with_reducible refine Ext.trans ?_ (by assumption)) | (with_reducible assumption) | exact Below.refl _ _)))
  have X2 := Lib.hid (X1.out.below (B := v1.heap.size) (show Below v1.heap.size v1 v2 by (repeat (first | (with_reducible exact Below.refl _ _) | (with_reducible refine Ext.drewN ?_ _) | (with_reducible refine Below.drew ?_) | (with_reducible refine Ext.alloc ?_ _) | (with_reducible refine Ext.setCell ?_ (by simp; try omega) _) | (with_reducible refine Ext.trans ?_ (by assumption)) | (with_reducible assumption) | exact Below.refl _ _))) (Nat.le_refl _))
  clear l1 c1
  obtain ⟨l2, c2⟩ := X2.out
  clear bv2 C1
  go_wp2_with fail
  refine (toLibrary_any a L cap _ HZS.out (HL.out.ext (by have b := W2.out; (repeat (first | (with_reducible exact Below.refl _ _) | (with_reducible refine Ext.drewN ?_ _) | (with_reducible refine Below.drew ?_) | (with_reducible refine Ext.alloc ?_ _) | (with_reducible refine Ext.setCell ?_ (by simp; try omega) _) | (with_reducible refine Ext.trans ?_ (by assumption)) | (with_reducible assumption) | exact Below.refl _ _))))).mono ?_
  rintro e v3 ⟨⟨h3, x3, y3, z3, rfl, O3⟩, bv3⟩
  have C3 := Lib.hid O3.cels
  have W3 := Lib.hid (show Below w.heap.size w v3 by have b := W2.out; (repeat (first | (with_reducible exact Below.refl _ _) | (with_reducible refine Ext.drewN ?_ _) | (with_reducible refine Below.drew ?_) | (with_reducible refine Ext.alloc ?_ _) | (with_reducible refine Ext.setCell ?_ (by simp; try omega) _) | (with_reducible refine Ext.trans ?_ (by assumption)) | (with_reducible assumption) | exact Below.refl _ _)))
  have X3 := Lib.hid (X2.out.below (B := v2.heap.size) (show Below v2.heap.size v2 v3 by (repeat (first | (with_reducible exact Below.refl _ _) | (with_reducible refine Ext.drewN ?_ _) | (with_reducible refine Below.drew ?_) | (with_reducible refine Ext.alloc ?_ _) | (with_reducible refine Ext.setCell ?_ (by simp; try omega) _) | (with_reducible refine Ext.trans ?_ (by assumption)) | (with_reducible assumption) | exact Below.refl _ _))) (Nat.le_refl _))
  clear l2 c2
  obtain ⟨l3, c3⟩ := X3.out
  clear O3 bv3
  go_wp2_with fail
  refine (implElementCount_any (some ⟨h3, 0, none⟩) L L.length k _ (HCh.out.ext (by have b := W3.out; (repeat (first | (with_reducible exact Below.refl _ _) | (with_reducible refine Ext.drewN ?_ _) | (with_reducible refine Below.drew ?_) | (with_reducible refine Ext.alloc ?_ _) | (with_reducible refine Ext.setCell ?_ (by simp; try omega) _) | (with_reducible refine Ext.trans ?_ (by assumption)) | (with_reducible assumption) | exact Below.refl _ _)))) HZS.out (C3.out.ext (by (repeat (first | (with_reducible exact Below.refl _ _) | (with_reducible refine Ext.drewN ?_ _) | (with_reducible refine Below.drew ?_) | (with_reducible refine Ext.alloc ?_ _) | (with_reducible refine Ext.setCell ?_ (by simp; try omega) _) | (with_reducible refine Ext.trans ?_ (by assumption)) | (with_reducible assumption) | exact Below.refl _ _))))).mono ?_
  rintro e v4 ⟨rfl, bv4⟩
  have C4 := Lib.hid (C3.out.ext (show Below v3.heap.size v3 v4 by (repeat (first | (with_reducible exact Below.refl _ _) | (with_reducible refine Ext.drewN ?_ _) | (with_reducible refine Below.drew ?_) | (with_reducible refine Ext.alloc ?_ _) | (with_reducible refine Ext.setCell ?_ (by simp; try omega) _) | (with_reducible refine Ext.trans ?_ (by assumption)) | (with_reducible assumption) | exact Below.refl _ _))))
  have W4 := Lib.hid (show Below w.heap.size w v4 by have b := W3.out; (repeat (first | (with_reducible exact Below.refl _ _) | (with_reducible refine Ext.drewN ?_ _) | (with_reducible refine Below.drew ?_) | (with_reducible refine Ext.alloc ?_ _) | (with_reducible refine Ext.setCell ?_ (by simp; try omega) _) | (with_reducible refine Ext.trans ?_ (by assumption)) | (with_reducible assumption) | exact Below.refl _ _)))
  have X4 := Lib.hid (X3.out.below (B := v3.heap.size) (show Below v3.heap.size v3 v4 by (repeat (first | (with_reducible exact Below.refl _ _) | (with_reducible refine Ext.drewN ?_ _) | (with_reducible refine Below.drew ?_) | (with_reducible refine Ext.alloc ?_ _) | (with_reducible refine Ext.setCell ?_ (by simp; try omega) _) | (with_reducible refine Ext.trans ?_ (by assumption)) | (with_reducible assumption) | exact Below.refl _ _))) (Nat.le_refl _))
  clear l3 c3
  obtain ⟨l4, c4⟩ := X4.out
  have B4 : v4.cell? ⟨v3.heap.size, 0, none⟩ = some (.slice (some ⟨h3, 0, none⟩) L.length L.length) := keepC bv4 (by simp [go_sem])
  have hs34 : v3.heap.size < v4.heap.size := Nat.lt_of_lt_of_le (by simp) bv4.size
  clear bv4 C3
  skip
  have W4' := W4.out
  have C4' := C4.out
  have s34 : v3.heap.size < v4.heap.size := hs34
  have sw4 : w.heap.size < v4.heap.size := l4
  go_wp2_with fail
  go_region_held3 (fun w' => w'.cell? ⟨w.heap.size, 0, none⟩ = some (.slice a L.length cap) ∧ w'.cell? ⟨v3.heap.size, 0, none⟩ = some (.slice (some ⟨h3, 0, none⟩) L.length L.length) ∧ w.heap.size < w'.heap.size ∧ v3.heap.size < w'.heap.size ∧ Below w.heap.size w w' ∧ CelsAt w'.heap.size w' (some ⟨h3, 0, none⟩) L)
    (first | ((try dsimp only); go_split_ands; (repeat' (with_reducible refine And.intro ?_ ?_)) <;> first | (with_reducible assumption) | (with_reducible exact keepC (by assumption) (by assumption)) | ((try simp only [World.size_drew]); omega) | (with_reducible exact CelsAt.ext (by assumption) (by assumption)) | (with_reducible exact CelsAt.ext (by assumption) (Below.refl _ _).drew) | ((repeat (first | (with_reducible exact Below.refl _ _) | (with_reducible refine Ext.drewN ?_ _) | (with_reducible refine Below.drew ?_) | (with_reducible refine Ext.alloc ?_ _) | (with_reducible refine Ext.setCell ?_ (by simp; try omega) _) | (with_reducible refine Ext.trans ?_ (by assumption)) | (with_reducible assumption) | exact Below.refl _ _)); done) | (go_keep; done)))
    (first | (go_at_call 27; refine (toLibrary_any a L cap _ HZS.out (HL.out.ext ?_)).mono ?_; (go_split_ands; assumption); rintro e v5 ⟨⟨h5, x5, y5, z5, rfl, O5⟩, bv5⟩; have C5 := Lib.hid O5.cels; clear O5; obtain ⟨sv5, zv5, cv5, fv5⟩ := bcell bv5; (try simp only [World.size_alloc, World.size_setCell, World.size_drew] at sv5)) | (go_at_call 28; refine (eqLibrary_any (some ⟨h3, 0, none⟩) _ L _ _ _ HZS.out ?_ C5.out).mono ?_; (go_split_ands; assumption); rintro e v6 ⟨rfl, bv6⟩; obtain ⟨sv6, zv6, cv6, fv6⟩ := bcell bv6; (try simp only [World.size_alloc, World.size_setCell, World.size_drew] at sv6)))
  go_wp2_with fail
  go_ret
  exact ⟨rfl, by go_split_ands; assumption⟩
end Go.Proofs.YtciodcknobccdaaDoor
