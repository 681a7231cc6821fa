/- The walk of FnExactSameLibrary. Conditions: the libraries' cells are in memory; impl.chip holds its value. -/
import Derived.Test.YtgamgfnbjfenaaaDoorLbS
import Derived.Test.YtgamgfnbjfenaaaDoorLbC
import Derived.Test.YtgamgfnbjfenaaaDoorLbE
import Derived.Test.YtgamgfnbjfenaaaDoorLcK
import Derived.Test.YtgamgfnbjfenaaaDoorLcL
namespace Go.Proofs.YtgamgfnbjfenaaaDoor
open Go.RowKit
set_option linter.unusedVariables false
set_option linter.unusedSimpArgs false
attribute [local go_sem ↓] Go.wp_at_zero Go.wp_at_succ

set_option maxRecDepth 100000 in
set_option maxHeartbeats 16000000 in
theorem walkSameLibrary (a : Option Addr) (L : List Cel) (cap : Nat) (b : Option Addr) (M : List Cel) (cap' : Nat) (w : World) (hO : LensOK L) (hL : CelsAt w.heap.size w a L) (hO' : LensOK M) (hM : CelsAt w.heap.size w b M) (hCh : ChipW w) :
    Calls Tryd.prog 11 #[.agg #[.slice a L.length cap], .agg #[.slice b M.length cap']] w fun e w' => e = .returned (.bool true) ∧ Below w.heap.size w w' := by
  have HL := Lib.hid hL
  have HM := Lib.hid hM
  have HCh := Lib.hid hCh
  have HO := Lib.hid hO
  have HO' := Lib.hid hO'
  clear hL hM hCh hO hO'
  by_cases hz : szCs L ≤ 1048576
  case neg =>
    have HZ := Lib.hid (leftI_f (v := 1048576) (n := szCs L) (by omega))
    go_enter Tryd.func11, Tryd.ntmps11
    go_wp2_with fail
    refine (szLibrary_any a L cap _ _ (by decide) (by decide) HO.out (HL.out.ext (by (repeat (first | (with_reducible exact Below.refl _ _) | (with_reducible refine Ext.drewN ?_ _) | (with_reducible refine Below.drew ?_) | (with_reducible refine Ext.alloc ?_ _) | (with_reducible refine Ext.setCell ?_ (by simp; try omega) _) | (with_reducible refine Ext.trans ?_ (by assumption)) | (with_reducible assumption) | exact Below.refl _ _))))).mono ?_
    rintro e v0 ⟨rfl, bv0⟩
    rw [HZ.out]
    go_wp2_with fail
    go_ret
    exact ⟨rfl, by (repeat (first | (with_reducible exact Below.refl _ _) | (with_reducible refine Ext.drewN ?_ _) | (with_reducible refine Below.drew ?_) | (with_reducible refine Ext.alloc ?_ _) | (with_reducible refine Ext.setCell ?_ (by simp; try omega) _) | (with_reducible refine Ext.trans ?_ (by assumption)) | (with_reducible assumption) | exact Below.refl _ _))⟩
  have HZ := Lib.hid (leftI_t (v := 1048576) (n := szCs L) (by omega))
  have HZS := Lib.hid hz
  have q0 : ¬ (1048576 : Int) - (szCs L : Int) < 0 := by omega
  by_cases hz' : (szCs M : Int) ≤ 1048576 - (szCs L : Int)
  case neg =>
    have HZ' := Lib.hid (leftI_f hz')
    clear hz'
    go_enter Tryd.func11, Tryd.ntmps11
    go_wp2_with fail
    refine (szLibrary_any a L cap _ _ (by decide) (by decide) HO.out (HL.out.ext (by (repeat (first | (with_reducible exact Below.refl _ _) | (with_reducible refine Ext.drewN ?_ _) | (with_reducible refine Below.drew ?_) | (with_reducible refine Ext.alloc ?_ _) | (with_reducible refine Ext.setCell ?_ (by simp; try omega) _) | (with_reducible refine Ext.trans ?_ (by assumption)) | (with_reducible assumption) | exact Below.refl _ _))))).mono ?_
    rintro e v0 ⟨rfl, bv0⟩
    obtain ⟨sv0, zv0, cv0, fv0⟩ := bcell bv0; (try simp only [World.size_alloc, World.size_setCell, World.size_drew] at sv0)
    rw [HZ.out]
    go_wp2_with fail
    refine (szLibrary_any b M cap' _ _ (by omega) (by omega) HO'.out (HM.out.ext (by (repeat (first | (with_reducible exact Below.refl _ _) | (with_reducible refine Ext.drewN ?_ _) | (with_reducible refine Below.drew ?_) | (with_reducible refine Ext.alloc ?_ _) | (with_reducible refine Ext.setCell ?_ (by simp; try omega) _) | (with_reducible refine Ext.trans ?_ (by assumption)) | (with_reducible assumption) | exact Below.refl _ _))))).mono ?_
    rintro e v9 ⟨rfl, bv9⟩
    rw [HZ'.out]
    go_wp2_with fail
    go_ret
    exact ⟨rfl, by (repeat (first | (with_reducible exact Below.refl _ _) | (with_reducible refine Ext.drewN ?_ _) | (with_reducible refine Below.drew ?_) | (with_reducible refine Ext.alloc ?_ _) | (with_reducible refine Ext.setCell ?_ (by simp; try omega) _) | (with_reducible refine Ext.trans ?_ (by assumption)) | (with_reducible assumption) | exact Below.refl _ _))⟩
  have HZ' := Lib.hid (leftI_t hz')
  have HZS' : Hid (szCs M ≤ 1048576) := Lib.hid (by omega)
  have q9 : ¬ (1048576 : Int) - (szCs L : Int) - (szCs M : Int) < 0 := by omega
  clear hz'
  go_enter Tryd.func11, Tryd.ntmps11
  go_wp2_with fail
  refine (szLibrary_any a L cap _ _ (by decide) (by decide) HO.out (HL.out.ext (by (repeat (first | (with_reducible exact Below.refl _ _) | (with_reducible refine Ext.drewN ?_ _) | (with_reducible refine Below.drew ?_) | (with_reducible refine Ext.alloc ?_ _) | (with_reducible refine Ext.setCell ?_ (by simp; try omega) _) | (with_reducible refine Ext.trans ?_ (by assumption)) | (with_reducible assumption) | exact Below.refl _ _))))).mono ?_
  rintro e v9 ⟨rfl, bv9⟩
  rw [HZ.out]
  have X9 := Lib.hid (show BoxL w.heap.size v9 a L.length cap from ⟨Nat.lt_of_lt_of_le (by simp <;> omega) bv9.size, keepC bv9 (by simp [go_sem])⟩)
  have Y9 := Lib.hid (show BoxL (w.heap.size + 1) v9 b M.length cap' from ⟨Nat.lt_of_lt_of_le (by simp) bv9.size, keepC bv9 (by simp [go_sem])⟩)
  have W9 := Lib.hid (show Below w.heap.size w v9 by (repeat (first | (with_reducible exact Below.refl _ _) | (with_reducible refine Ext.drewN ?_ _) | (with_reducible refine Below.drew ?_) | (with_reducible refine Ext.alloc ?_ _) | (with_reducible refine Ext.setCell ?_ (by simp; try omega) _) | (with_reducible refine Ext.trans ?_ (by assumption)) | (with_reducible assumption) | exact Below.refl _ _)))
  obtain ⟨l9, c9⟩ := X9.out
  obtain ⟨m9, d9⟩ := Y9.out
  clear bv9
  go_wp2_with fail
  refine (szLibrary_any b M cap' _ _ (by omega) (by omega) HO'.out (HM.out.ext (by have b := W9.out; (repeat (first | (with_reducible exact Below.refl _ _) | (with_reducible refine Ext.drewN ?_ _) | (with_reducible refine Below.drew ?_) | (with_reducible refine Ext.alloc ?_ _) | (with_reducible refine Ext.setCell ?_ (by simp; try omega) _) | (with_reducible refine Ext.trans ?_ (by assumption)) | (with_reducible assumption) | exact Below.refl _ _))))).mono ?_
  rintro e v0 ⟨rfl, bv0⟩
  rw [HZ'.out]
  have W0 := Lib.hid (show Below w.heap.size w v0 by have b := W9.out; (repeat (first | (with_reducible exact Below.refl _ _) | (with_reducible refine Ext.drewN ?_ _) | (with_reducible refine Below.drew ?_) | (with_reducible refine Ext.alloc ?_ _) | (with_reducible refine Ext.setCell ?_ (by simp; try omega) _) | (with_reducible refine Ext.trans ?_ (by assumption)) | (with_reducible assumption) | exact Below.refl _ _)))
  have X0 := Lib.hid (X9.out.below (B := v9.heap.size) (show Below v9.heap.size v9 v0 by (repeat (first | (with_reducible exact Below.refl _ _) | (with_reducible refine Ext.drewN ?_ _) | (with_reducible refine Below.drew ?_) | (with_reducible refine Ext.alloc ?_ _) | (with_reducible refine Ext.setCell ?_ (by simp; try omega) _) | (with_reducible refine Ext.trans ?_ (by assumption)) | (with_reducible assumption) | exact Below.refl _ _))) (Nat.le_refl _))
  have Y0 := Lib.hid (Y9.out.below (B := v9.heap.size) (show Below v9.heap.size v9 v0 by (repeat (first | (with_reducible exact Below.refl _ _) | (with_reducible refine Ext.drewN ?_ _) | (with_reducible refine Below.drew ?_) | (with_reducible refine Ext.alloc ?_ _) | (with_reducible refine Ext.setCell ?_ (by simp; try omega) _) | (with_reducible refine Ext.trans ?_ (by assumption)) | (with_reducible assumption) | exact Below.refl _ _))) (Nat.le_refl _))
  clear l9 c9 m9 d9
  obtain ⟨l0, c0⟩ := X0.out
  obtain ⟨m0, d0⟩ := Y0.out
  clear bv0
  go_wp2_with fail
  have W0' := W0.out
  go_region_held3 (fun w' => w'.cell? ⟨w.heap.size, 0, none⟩ = some (.slice a L.length cap) ∧ w'.cell? ⟨w.heap.size + 1, 0, none⟩ = some (.slice b M.length cap') ∧ w.heap.size < w'.heap.size ∧ w.heap.size + 1 < w'.heap.size ∧ Below w.heap.size w w')
    (first | ((try dsimp only); go_split_ands; (repeat' (with_reducible refine And.intro ?_ ?_)) <;> first | (with_reducible assumption) | (with_reducible exact keepC (by assumption) (by assumption)) | ((try simp only [World.size_drew]); omega) | (with_reducible exact CelsAt.ext (by assumption) (by assumption)) | (with_reducible exact CelsAt.ext (by assumption) (Below.refl _ _).drew) | ((repeat (first | (with_reducible exact Below.refl _ _) | (with_reducible refine Ext.drewN ?_ _) | (with_reducible refine Below.drew ?_) | (with_reducible refine Ext.alloc ?_ _) | (with_reducible refine Ext.setCell ?_ (by simp; try omega) _) | (with_reducible refine Ext.trans ?_ (by assumption)) | (with_reducible assumption) | exact Below.refl _ _)); done) | (go_keep; done)))
    (first | (go_at_call_of 22 (Value.agg #[.slice a L.length cap]); refine (toLibrary_any a L cap _ HZS.out (HL.out.ext ?_)).mono ?_; (go_split_ands; assumption); rintro e u1 ⟨⟨h1, x1, y1, z1, rfl, P1⟩, bu1⟩; have D1 := Lib.hid P1.cels; clear P1; obtain ⟨su1, zu1, cu1, fu1⟩ := bcell bu1; (try simp only [World.size_alloc, World.size_setCell, World.size_drew] at su1)) | (go_at_call 22; refine (toLibrary_any b M cap' _ HZS'.out (HM.out.ext ?_)).mono ?_; (go_split_ands; assumption); rintro e u2 ⟨⟨h2, x2, y2, z2, rfl, P2⟩, bu2⟩; have D2 := Lib.hid P2.cels; clear P2; obtain ⟨su2, zu2, cu2, fu2⟩ := bcell bu2; (try simp only [World.size_alloc, World.size_setCell, World.size_drew] at su2)) | (go_at_call 39; refine (specSameLibrary_any _ _ L M _ _ _ HZS.out HZS'.out ?_ ?_).mono ?_; (first | exact D1.out | exact D1.out.ext (by assumption)); (first | exact D2.out | exact D2.out.ext (by assumption)); rintro e v3 ⟨rfl, bv3⟩; obtain ⟨sv3, zv3, cv3, fv3⟩ := bcell bv3; (try simp only [World.size_alloc, World.size_setCell, World.size_drew] at sv3)))
  have W3 := Lib.hid (show Below w.heap.size w v3 by go_split_ands; assumption)
  have X3 := Lib.hid (show BoxL w.heap.size v3 a L.length cap from ⟨by go_split_ands; assumption, by go_split_ands; assumption⟩)
  have Y3 := Lib.hid (show BoxL (w.heap.size + 1) v3 b M.length cap' from ⟨by go_split_ands; assumption, by go_split_ands; assumption⟩)
  clear l0 c0 m0 d0
  obtain ⟨l3, c3⟩ := X3.out
  obtain ⟨m3, d3⟩ := Y3.out
  go_wp2_with fail
  refine (toLibrary_any a L cap _ HZS.out (HL.out.ext (by have b := W3.out; (repeat (first | (with_reducible exact Below.refl _ _) | (with_reducible refine Ext.drewN ?_ _) | (with_reducible refine Below.drew ?_) | (with_reducible refine Ext.alloc ?_ _) | (with_reducible refine Ext.setCell ?_ (by simp; try omega) _) | (with_reducible refine Ext.trans ?_ (by assumption)) | (with_reducible assumption) | exact Below.refl _ _))))).mono ?_
  rintro e v4 ⟨⟨h4, x4, y4, z4, rfl, O4⟩, bv4⟩
  have C4 := Lib.hid O4.cels
  have W4 := Lib.hid (show Below w.heap.size w v4 by have b := W3.out; (repeat (first | (with_reducible exact Below.refl _ _) | (with_reducible refine Ext.drewN ?_ _) | (with_reducible refine Below.drew ?_) | (with_reducible refine Ext.alloc ?_ _) | (with_reducible refine Ext.setCell ?_ (by simp; try omega) _) | (with_reducible refine Ext.trans ?_ (by assumption)) | (with_reducible assumption) | exact Below.refl _ _)))
  have X4 := Lib.hid (X3.out.below (B := v3.heap.size) (show Below v3.heap.size v3 v4 by (repeat (first | (with_reducible exact Below.refl _ _) | (with_reducible refine Ext.drewN ?_ _) | (with_reducible refine Below.drew ?_) | (with_reducible refine Ext.alloc ?_ _) | (with_reducible refine Ext.setCell ?_ (by simp; try omega) _) | (with_reducible refine Ext.trans ?_ (by assumption)) | (with_reducible assumption) | exact Below.refl _ _))) (Nat.le_refl _))
  have Y4 := Lib.hid (Y3.out.below (B := v3.heap.size) (show Below v3.heap.size v3 v4 by (repeat (first | (with_reducible exact Below.refl _ _) | (with_reducible refine Ext.drewN ?_ _) | (with_reducible refine Below.drew ?_) | (with_reducible refine Ext.alloc ?_ _) | (with_reducible refine Ext.setCell ?_ (by simp; try omega) _) | (with_reducible refine Ext.trans ?_ (by assumption)) | (with_reducible assumption) | exact Below.refl _ _))) (Nat.le_refl _))
  clear l3 c3 m3 d3
  obtain ⟨l4, c4⟩ := X4.out
  obtain ⟨m4, d4⟩ := Y4.out
  clear O4 bv4
  go_wp2_with fail
  refine (toLibrary_any b M cap' _ HZS'.out (HM.out.ext (by have b := W4.out; (repeat (first | (with_reducible exact Below.refl _ _) | (with_reducible refine Ext.drewN ?_ _) | (with_reducible refine Below.drew ?_) | (with_reducible refine Ext.alloc ?_ _) | (with_reducible refine Ext.setCell ?_ (by simp; try omega) _) | (with_reducible refine Ext.trans ?_ (by assumption)) | (with_reducible assumption) | exact Below.refl _ _))))).mono ?_
  rintro e v5 ⟨⟨h5, x5, y5, z5, rfl, O5⟩, bv5⟩
  have C5 := Lib.hid O5.cels
  have W5 := Lib.hid (show Below w.heap.size w v5 by have b := W4.out; (repeat (first | (with_reducible exact Below.refl _ _) | (with_reducible refine Ext.drewN ?_ _) | (with_reducible refine Below.drew ?_) | (with_reducible refine Ext.alloc ?_ _) | (with_reducible refine Ext.setCell ?_ (by simp; try omega) _) | (with_reducible refine Ext.trans ?_ (by assumption)) | (with_reducible assumption) | exact Below.refl _ _)))
  have X5 := Lib.hid (X4.out.below (B := v4.heap.size) (show Below v4.heap.size v4 v5 by (repeat (first | (with_reducible exact Below.refl _ _) | (with_reducible refine Ext.drewN ?_ _) | (with_reducible refine Below.drew ?_) | (with_reducible refine Ext.alloc ?_ _) | (with_reducible refine Ext.setCell ?_ (by simp; try omega) _) | (with_reducible refine Ext.trans ?_ (by assumption)) | (with_reducible assumption) | exact Below.refl _ _))) (Nat.le_refl _))
  have Y5 := Lib.hid (Y4.out.below (B := v4.heap.size) (show Below v4.heap.size v4 v5 by (repeat (first | (with_reducible exact Below.refl _ _) | (with_reducible refine Ext.drewN ?_ _) | (with_reducible refine Below.drew ?_) | (with_reducible refine Ext.alloc ?_ _) | (with_reducible refine Ext.setCell ?_ (by simp; try omega) _) | (with_reducible refine Ext.trans ?_ (by assumption)) | (with_reducible assumption) | exact Below.refl _ _))) (Nat.le_refl _))
  clear l4 c4 m4 d4
  obtain ⟨l5, c5⟩ := X5.out
  obtain ⟨m5, d5⟩ := Y5.out
  have C4b := Lib.hid (C4.out.ext (show Below v4.heap.size v4 v5 by (repeat (first | (with_reducible exact Below.refl _ _) | (with_reducible refine Ext.drewN ?_ _) | (with_reducible refine Below.drew ?_) | (with_reducible refine Ext.alloc ?_ _) | (with_reducible refine Ext.setCell ?_ (by simp; try omega) _) | (with_reducible refine Ext.trans ?_ (by assumption)) | (with_reducible assumption) | exact Below.refl _ _))))
  have B45 : v5.cell? ⟨v4.heap.size, 0, none⟩ = some (.slice (some ⟨h4, 0, none⟩) L.length L.length) := keepC bv5 (by simp [go_sem])
  have s45 : v4.heap.size < v5.heap.size := Nat.lt_of_lt_of_le (by simp) bv5.size
  clear O5 bv5 C4
  go_wp2_with fail
  refine (implSameLibrary_any (some ⟨h4, 0, none⟩) (some ⟨h5, 0, none⟩) L M _ _ _ (HCh.out.ext (by have b := W5.out; (repeat (first | (with_reducible exact Below.refl _ _) | (with_reducible refine Ext.drewN ?_ _) | (with_reducible refine Below.drew ?_) | (with_reducible refine Ext.alloc ?_ _) | (with_reducible refine Ext.setCell ?_ (by simp; try omega) _) | (with_reducible refine Ext.trans ?_ (by assumption)) | (with_reducible assumption) | exact Below.refl _ _)))) HZS.out HZS'.out (C4b.out.ext (by (repeat (first | (with_reducible exact Below.refl _ _) | (with_reducible refine Ext.drewN ?_ _) | (with_reducible refine Below.drew ?_) | (with_reducible refine Ext.alloc ?_ _) | (with_reducible refine Ext.setCell ?_ (by simp; try omega) _) | (with_reducible refine Ext.trans ?_ (by assumption)) | (with_reducible assumption) | exact Below.refl _ _)))) (C5.out.ext (by (repeat (first | (with_reducible exact Below.refl _ _) | (with_reducible refine Ext.drewN ?_ _) | (with_reducible refine Below.drew ?_) | (with_reducible refine Ext.alloc ?_ _) | (with_reducible refine Ext.setCell ?_ (by simp; try omega) _) | (with_reducible refine Ext.trans ?_ (by assumption)) | (with_reducible assumption) | exact Below.refl _ _))))).mono ?_
  rintro e v6 ⟨rfl, bv6⟩
  have W6 := Lib.hid (show Below w.heap.size w v6 by have b := W5.out; (repeat (first | (with_reducible exact Below.refl _ _) | (with_reducible refine Ext.drewN ?_ _) | (with_reducible refine Below.drew ?_) | (with_reducible refine Ext.alloc ?_ _) | (with_reducible refine Ext.setCell ?_ (by simp; try omega) _) | (with_reducible refine Ext.trans ?_ (by assumption)) | (with_reducible assumption) | exact Below.refl _ _)))
  have X6 := Lib.hid (X5.out.below (B := v5.heap.size) (show Below v5.heap.size v5 v6 by (repeat (first | (with_reducible exact Below.refl _ _) | (with_reducible refine Ext.drewN ?_ _) | (with_reducible refine Below.drew ?_) | (with_reducible refine Ext.alloc ?_ _) | (with_reducible refine Ext.setCell ?_ (by simp; try omega) _) | (with_reducible refine Ext.trans ?_ (by assumption)) | (with_reducible assumption) | exact Below.refl _ _))) (Nat.le_refl _))
  have Y6 := Lib.hid (Y5.out.below (B := v5.heap.size) (show Below v5.heap.size v5 v6 by (repeat (first | (with_reducible exact Below.refl _ _) | (with_reducible refine Ext.drewN ?_ _) | (with_reducible refine Below.drew ?_) | (with_reducible refine Ext.alloc ?_ _) | (with_reducible refine Ext.setCell ?_ (by simp; try omega) _) | (with_reducible refine Ext.trans ?_ (by assumption)) | (with_reducible assumption) | exact Below.refl _ _))) (Nat.le_refl _))
  clear l5 c5 m5 d5
  obtain ⟨l6, c6⟩ := X6.out
  obtain ⟨m6, d6⟩ := Y6.out
  have C4c := Lib.hid (C4b.out.ext (show Below v5.heap.size v5 v6 by (repeat (first | (with_reducible exact Below.refl _ _) | (with_reducible refine Ext.drewN ?_ _) | (with_reducible refine Below.drew ?_) | (with_reducible refine Ext.alloc ?_ _) | (with_reducible refine Ext.setCell ?_ (by simp; try omega) _) | (with_reducible refine Ext.trans ?_ (by assumption)) | (with_reducible assumption) | exact Below.refl _ _))))
  have C5c := Lib.hid (C5.out.ext (show Below v5.heap.size v5 v6 by (repeat (first | (with_reducible exact Below.refl _ _) | (with_reducible refine Ext.drewN ?_ _) | (with_reducible refine Below.drew ?_) | (with_reducible refine Ext.alloc ?_ _) | (with_reducible refine Ext.setCell ?_ (by simp; try omega) _) | (with_reducible refine Ext.trans ?_ (by assumption)) | (with_reducible assumption) | exact Below.refl _ _))))
  have B46 : v6.cell? ⟨v4.heap.size, 0, none⟩ = some (.slice (some ⟨h4, 0, none⟩) L.length L.length) := keepC bv6 (by simp [go_sem, *])
  have B56 : v6.cell? ⟨v5.heap.size, 0, none⟩ = some (.slice (some ⟨h5, 0, none⟩) M.length M.length) := keepC bv6 (by simp [go_sem])
  have s56 : v5.heap.size < v6.heap.size := Nat.lt_of_lt_of_le (by simp) bv6.size
  have s46 : v4.heap.size < v6.heap.size := by omega
  clear bv6 C4b C5 B45
  have W6' := W6.out
  have C4' := C4c.out
  have C5' := C5c.out
  go_wp2_with fail
  go_region_held3 (fun w' => w'.cell? ⟨w.heap.size, 0, none⟩ = some (.slice a L.length cap) ∧ w'.cell? ⟨w.heap.size + 1, 0, none⟩ = some (.slice b M.length cap') ∧ w'.cell? ⟨v4.heap.size, 0, none⟩ = some (.slice (some ⟨h4, 0, none⟩) L.length L.length) ∧ w'.cell? ⟨v5.heap.size, 0, none⟩ = some (.slice (some ⟨h5, 0, none⟩) M.length M.length) ∧ w.heap.size < w'.heap.size ∧ w.heap.size + 1 < w'.heap.size ∧ v4.heap.size < w'.heap.size ∧ v5.heap.size < w'.heap.size ∧ Below w.heap.size w w' ∧ CelsAt w'.heap.size w' (some ⟨h4, 0, none⟩) L ∧ CelsAt w'.heap.size w' (some ⟨h5, 0, none⟩) M)
    (first | ((try dsimp only); go_split_ands; (repeat' (with_reducible refine And.intro ?_ ?_)) <;> first | (with_reducible assumption) | (with_reducible exact keepC (by assumption) (by assumption)) | ((try simp only [World.size_drew]); omega) | (with_reducible exact CelsAt.ext (by assumption) (by assumption)) | (with_reducible exact CelsAt.ext (by assumption) (Below.refl _ _).drew) | ((repeat (first | (with_reducible exact Below.refl _ _) | (with_reducible refine Ext.drewN ?_ _) | (with_reducible refine Below.drew ?_) | (with_reducible refine Ext.alloc ?_ _) | (with_reducible refine Ext.setCell ?_ (by simp; try omega) _) | (with_reducible refine Ext.trans ?_ (by assumption)) | (with_reducible assumption) | exact Below.refl _ _)); done) | (go_keep; done)))
    (first | (go_at_call 22; refine (toLibrary_any a L cap _ HZS.out (HL.out.ext ?_)).mono ?_; (go_split_ands; assumption); rintro e u1 ⟨⟨g1, x1', y1', z1', rfl, P1⟩, bu1⟩; have D1 := Lib.hid P1.cels; clear P1; obtain ⟨su1, zu1, cu1, fu1⟩ := bcell bu1; (try simp only [World.size_alloc, World.size_setCell, World.size_drew] at su1)) | (go_at_call 24; refine (eqLibrary_any (some ⟨h4, 0, none⟩) _ L _ _ _ HZS.out ?_ D1.out).mono ?_; (go_split_ands; assumption); rintro e t1 ⟨rfl, bt1⟩; obtain ⟨st1, zt1, ct1, ft1⟩ := bcell bt1; (try simp only [World.size_alloc, World.size_setCell, World.size_drew] at st1)))
  all_goals
    go_split_ands
    go_wp2_with fail
    go_region_held3 (fun w' => w'.cell? ⟨w.heap.size, 0, none⟩ = some (.slice a L.length cap) ∧ w'.cell? ⟨w.heap.size + 1, 0, none⟩ = some (.slice b M.length cap') ∧ w'.cell? ⟨v4.heap.size, 0, none⟩ = some (.slice (some ⟨h4, 0, none⟩) L.length L.length) ∧ w'.cell? ⟨v5.heap.size, 0, none⟩ = some (.slice (some ⟨h5, 0, none⟩) M.length M.length) ∧ w.heap.size < w'.heap.size ∧ w.heap.size + 1 < w'.heap.size ∧ v4.heap.size < w'.heap.size ∧ v5.heap.size < w'.heap.size ∧ Below w.heap.size w w' ∧ CelsAt w'.heap.size w' (some ⟨h4, 0, none⟩) L ∧ CelsAt w'.heap.size w' (some ⟨h5, 0, none⟩) M)
      (first | ((try dsimp only); go_split_ands; (repeat' (with_reducible refine And.intro ?_ ?_)) <;> first | (with_reducible assumption) | (with_reducible exact keepC (by assumption) (by assumption)) | ((try simp only [World.size_drew]); omega) | (with_reducible exact CelsAt.ext (by assumption) (by assumption)) | (with_reducible exact CelsAt.ext (by assumption) (Below.refl _ _).drew) | ((repeat (first | (with_reducible exact Below.refl _ _) | (with_reducible refine Ext.drewN ?_ _) | (with_reducible refine Below.drew ?_) | (with_reducible refine Ext.alloc ?_ _) | (with_reducible refine Ext.setCell ?_ (by simp; try omega) _) | (with_reducible refine Ext.trans ?_ (by assumption)) | (with_reducible assumption) | exact Below.refl _ _)); done) | (go_keep; done)))
      (first | (go_at_call 22; refine (toLibrary_any b M cap' _ HZS'.out (HM.out.ext ?_)).mono ?_; (go_split_ands; assumption); rintro e u2 ⟨⟨g2, x2', y2', z2', rfl, P2⟩, bu2⟩; have D2 := Lib.hid P2.cels; clear P2; obtain ⟨su2, zu2, cu2, fu2⟩ := bcell bu2; (try simp only [World.size_alloc, World.size_setCell, World.size_drew] at su2)) | (go_at_call 24; refine (eqLibrary_any (some ⟨h5, 0, none⟩) _ M _ _ _ HZS'.out ?_ D2.out).mono ?_; (go_split_ands; assumption); rintro e t2 ⟨rfl, bt2⟩; obtain ⟨st2, zt2, ct2, ft2⟩ := bcell bt2; (try simp only [World.size_alloc, World.size_setCell, World.size_drew] at st2)))
    all_goals
      go_wp2_with fail
      go_ret
      exact ⟨rfl, by go_split_ands; assumption⟩
end Go.Proofs.YtgamgfnbjfenaaaDoor
