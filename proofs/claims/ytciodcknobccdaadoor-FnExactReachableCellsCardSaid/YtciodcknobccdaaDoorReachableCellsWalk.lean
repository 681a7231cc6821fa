/- The walk of FnExactReachableCells. Conditions: the library's cells are in memory; impl.chip holds its value. -/
import Derived.Test.YtciodcknobccdaaDoorLbS
import Derived.Test.YtciodcknobccdaaDoorLbC
import Derived.Test.YtciodcknobccdaaDoorLbE
import Derived.Test.YtciodcknobccdaaDoorLcS
import Derived.Test.YtciodcknobccdaaDoorLcY
namespace Go.Proofs.YtciodcknobccdaaDoor
open Go.RowKit
set_option linter.unusedVariables false
set_option linter.unusedSimpArgs false
attribute [local go_sem ↓] Go.wp_at_zero Go.wp_at_succ

set_option maxRecDepth 100000 in
set_option maxHeartbeats 8000000 in
theorem walkReachableCells (a : Option Addr) (L : List Cel) (cap : Nat) (k : Int) (w : World) (hO : LensOK L) (hL : CelsAt w.heap.size w a L) (hCh : ChipW w) :
    Calls Tryd.prog 8 #[.agg #[.slice a L.length cap], .int .i64 k] w fun e w' => e = .returned (.bool true) ∧ Below w.heap.size w w' := by
  have HL := Lib.hid hL
  have HCh := Lib.hid hCh
  have HO := Lib.hid hO
  clear hL hCh hO
  by_cases hz : szCs L ≤ 1048576
  case neg =>
    have HZ := Lib.hid (leftI_f (v := 1048576) (n := szCs L) (by omega))
    go_enter Tryd.func8, Tryd.ntmps8
    go_wp2_with fail
    refine (szLibrary_any a L cap _ _ (by decide) (by decide) HO.out (HL.out.ext (by (repeat (first | (with_reducible exact Below.refl _ _) | (with_reducible refine Ext.drewN ?_ _) | (with_reducible refine Below.drew ?_) | (with_reducible refine Ext.alloc ?_ _) | (with_reducible refine Ext.setCell ?_ (by simp; try omega) _) | (with_reducible refine Ext.trans ?_ (by assumption)) | (with_reducible assumption) | exact Below.refl _ _))))).mono ?_
    rintro e v0 ⟨rfl, bv0⟩
    rw [HZ.out]
    go_wp2_with fail
    go_ret
    exact ⟨rfl, by (repeat (first | (with_reducible exact Below.refl _ _) | (with_reducible refine Ext.drewN ?_ _) | (with_reducible refine Below.drew ?_) | (with_reducible refine Ext.alloc ?_ _) | (with_reducible refine Ext.setCell ?_ (by simp; try omega) _) | (with_reducible refine Ext.trans ?_ (by assumption)) | (with_reducible assumption) | exact Below.refl _ _))⟩
  have HZ := Lib.hid (leftI_t (v := 1048576) (n := szCs L) (by omega))
  have HZS := Lib.hid hz
  have q0 : ¬ (1048576 : Int) - (szCs L : Int) < 0 := by omega
  go_enter Tryd.func8, Tryd.ntmps8
  go_wp2_with fail
  refine (szLibrary_any a L cap _ _ (by decide) (by decide) HO.out (HL.out.ext (by (repeat (first | (with_reducible exact Below.refl _ _) | (with_reducible refine Ext.drewN ?_ _) | (with_reducible refine Below.drew ?_) | (with_reducible refine Ext.alloc ?_ _) | (with_reducible refine Ext.setCell ?_ (by simp; try omega) _) | (with_reducible refine Ext.trans ?_ (by assumption)) | (with_reducible assumption) | exact Below.refl _ _))))).mono ?_
  rintro e v0 ⟨rfl, bv0⟩
  rw [HZ.out]
  have W0 := Lib.hid (show Below w.heap.size w v0 by (repeat (first | (with_reducible exact Below.refl _ _) | (with_reducible refine Ext.drewN ?_ _) | (with_reducible refine Below.drew ?_) | (with_reducible refine Ext.alloc ?_ _) | (with_reducible refine Ext.setCell ?_ (by simp; try omega) _) | (with_reducible refine Ext.trans ?_ (by assumption)) | (with_reducible assumption) | exact Below.refl _ _)))
  have X0 := Lib.hid (show BoxL w.heap.size v0 a L.length cap from ⟨Nat.lt_of_lt_of_le (by simp) bv0.size, keepC bv0 (by simp [go_sem])⟩)
  obtain ⟨l0, c0⟩ := X0.out
  clear bv0
  go_wp2_with fail
  refine (toLibrary_any a L cap _ HZS.out (HL.out.ext (by have b := W0.out; (repeat (first | (with_reducible exact Below.refl _ _) | (with_reducible refine Ext.drewN ?_ _) | (with_reducible refine Below.drew ?_) | (with_reducible refine Ext.alloc ?_ _) | (with_reducible refine Ext.setCell ?_ (by simp; try omega) _) | (with_reducible refine Ext.trans ?_ (by assumption)) | (with_reducible assumption) | exact Below.refl _ _))))).mono ?_
  rintro e v1 ⟨⟨h1, x1, y1, z1, rfl, O1⟩, bv1⟩
  have C1 := Lib.hid O1.cels
  have W1 := Lib.hid (show Below w.heap.size w v1 by have b := W0.out; (repeat (first | (with_reducible exact Below.refl _ _) | (with_reducible refine Ext.drewN ?_ _) | (with_reducible refine Below.drew ?_) | (with_reducible refine Ext.alloc ?_ _) | (with_reducible refine Ext.setCell ?_ (by simp; try omega) _) | (with_reducible refine Ext.trans ?_ (by assumption)) | (with_reducible assumption) | exact Below.refl _ _)))
  have X1 := Lib.hid (X0.out.below (B := v0.heap.size) (show Below v0.heap.size v0 v1 by (repeat (first | (with_reducible exact Below.refl _ _) | (with_reducible refine Ext.drewN ?_ _) | (with_reducible refine Below.drew ?_) | (with_reducible refine Ext.alloc ?_ _) | (with_reducible refine Ext.setCell ?_ (by simp; try omega) _) | (with_reducible refine Ext.trans ?_ (by assumption)) | (with_reducible assumption) | exact Below.refl _ _))) (Nat.le_refl _))
  clear l0 c0
  obtain ⟨l1, c1⟩ := X1.out
  clear O1 bv1
  go_wp2_with fail
  refine (specReachableCells_any (some ⟨h1, 0, none⟩) L L.length k _ HZS.out (C1.out.ext (by (repeat (first | (with_reducible exact Below.refl _ _) | (with_reducible refine Ext.drewN ?_ _) | (with_reducible refine Below.drew ?_) | (with_reducible refine Ext.alloc ?_ _) | (with_reducible refine Ext.setCell ?_ (by simp; try omega) _) | (with_reducible refine Ext.trans ?_ (by assumption)) | (with_reducible assumption) | exact Below.refl _ _))))).mono ?_
  rintro e v2 ⟨⟨_, rfl, wa, wc, rfl, ow⟩, bv2⟩
  have IW2 := Lib.hid (own_ints ow)
  clear ow
  have W2 := Lib.hid (show Below w.heap.size w v2 by have b := W1.out; (repeat (first | (with_reducible exact Below.refl _ _) | (with_reducible refine Ext.drewN ?_ _) | (with_reducible refine Below.drew ?_) | (with_reducible refine Ext.alloc ?_ _) | (with_reducible refine Ext.setCell ?_ (by simp; try omega) _) | (with_reducible refine Ext.trans ?_ (by assumption)) | (with_reducible assumption) | exact Below.refl _ _)))
  have X2 := Lib.hid (X1.out.below (B := v1.heap.size) (show Below v1.heap.size v1 v2 by (repeat (first | (with_reducible exact Below.refl _ _) | (with_reducible refine Ext.drewN ?_ _) | (with_reducible refine Below.drew ?_) | (with_reducible refine Ext.alloc ?_ _) | (with_reducible refine Ext.setCell ?_ (by simp; try omega) _) | (with_reducible refine Ext.trans ?_ (by assumption)) | (with_reducible assumption) | exact Below.refl _ _))) (Nat.le_refl _))
  clear l1 c1
  obtain ⟨l2, c2⟩ := X2.out
  clear bv2 C1
  go_wp2_with fail
  refine (toLibrary_any a L cap _ HZS.out (HL.out.ext (by have b := W2.out; (repeat (first | (with_reducible exact Below.refl _ _) | (with_reducible refine Ext.drewN ?_ _) | (with_reducible refine Below.drew ?_) | (with_reducible refine Ext.alloc ?_ _) | (with_reducible refine Ext.setCell ?_ (by simp; try omega) _) | (with_reducible refine Ext.trans ?_ (by assumption)) | (with_reducible assumption) | exact Below.refl _ _))))).mono ?_
  rintro e v3 ⟨⟨h3, x3, y3, z3, rfl, O3⟩, bv3⟩
  have C3 := Lib.hid O3.cels
  have W3 := Lib.hid (show Below w.heap.size w v3 by have b := W2.out; (repeat (first | (with_reducible exact Below.refl _ _) | (with_reducible refine Ext.drewN ?_ _) | (with_reducible refine Below.drew ?_) | (with_reducible refine Ext.alloc ?_ _) | (with_reducible refine Ext.setCell ?_ (by simp; try omega) _) | (with_reducible refine Ext.trans ?_ (by assumption)) | (with_reducible assumption) | exact Below.refl _ _)))
  have X3 := Lib.hid (X2.out.below (B := v2.heap.size) (show Below v2.heap.size v2 v3 by (repeat (first | (with_reducible exact Below.refl _ _) | (with_reducible refine Ext.drewN ?_ _) | (with_reducible refine Below.drew ?_) | (with_reducible refine Ext.alloc ?_ _) | (with_reducible refine Ext.setCell ?_ (by simp; try omega) _) | (with_reducible refine Ext.trans ?_ (by assumption)) | (with_reducible assumption) | exact Below.refl _ _))) (Nat.le_refl _))
  clear l2 c2
  obtain ⟨l3, c3⟩ := X3.out
  have M3 := Lib.hid (show MarkOK v2.heap.size v3.heap.size v3 h3 L x3 y3 z3 from O3.marks)
  have S23 := Lib.hid (show Below v2.heap.size v2 v3 by (repeat (first | (with_reducible exact Below.refl _ _) | (with_reducible refine Ext.drewN ?_ _) | (with_reducible refine Below.drew ?_) | (with_reducible refine Ext.alloc ?_ _) | (with_reducible refine Ext.setCell ?_ (by simp; try omega) _) | (with_reducible refine Ext.trans ?_ (by assumption)) | (with_reducible assumption) | exact Below.refl _ _)))
  clear O3 bv3
  go_wp2_with fail
  refine (implReachableCells_any (some ⟨h3, 0, none⟩) L L.length k _ (HCh.out.ext (by have b := W3.out; (repeat (first | (with_reducible exact Below.refl _ _) | (with_reducible refine Ext.drewN ?_ _) | (with_reducible refine Below.drew ?_) | (with_reducible refine Ext.alloc ?_ _) | (with_reducible refine Ext.setCell ?_ (by simp; try omega) _) | (with_reducible refine Ext.trans ?_ (by assumption)) | (with_reducible assumption) | exact Below.refl _ _)))) HZS.out (C3.out.ext (by (repeat (first | (with_reducible exact Below.refl _ _) | (with_reducible refine Ext.drewN ?_ _) | (with_reducible refine Below.drew ?_) | (with_reducible refine Ext.alloc ?_ _) | (with_reducible refine Ext.setCell ?_ (by simp; try omega) _) | (with_reducible refine Ext.trans ?_ (by assumption)) | (with_reducible assumption) | exact Below.refl _ _))))).mono ?_
  rintro e v4 ⟨⟨_, rfl, ga, gc, rfl, og⟩, bv4⟩
  have IG4 := Lib.hid (own_ints og)
  have OG4 := Lib.hid (RowOK.low (l2 := v3.heap.size) (show RowOK _ v4.heap.size v4 ga (rcV L k).length from own_marks og) (by simp))
  have S34 := Lib.hid (show Below v3.heap.size v3 v4 by (repeat (first | (with_reducible exact Below.refl _ _) | (with_reducible refine Ext.drewN ?_ _) | (with_reducible refine Below.drew ?_) | (with_reducible refine Ext.alloc ?_ _) | (with_reducible refine Ext.setCell ?_ (by simp; try omega) _) | (with_reducible refine Ext.trans ?_ (by assumption)) | (with_reducible assumption) | exact Below.refl _ _)))
  clear og
  have C4 := Lib.hid (C3.out.ext (show Below v3.heap.size v3 v4 by (repeat (first | (with_reducible exact Below.refl _ _) | (with_reducible refine Ext.drewN ?_ _) | (with_reducible refine Below.drew ?_) | (with_reducible refine Ext.alloc ?_ _) | (with_reducible refine Ext.setCell ?_ (by simp; try omega) _) | (with_reducible refine Ext.trans ?_ (by assumption)) | (with_reducible assumption) | exact Below.refl _ _))))
  have W4 := Lib.hid (show Below w.heap.size w v4 by have b := W3.out; (repeat (first | (with_reducible exact Below.refl _ _) | (with_reducible refine Ext.drewN ?_ _) | (with_reducible refine Below.drew ?_) | (with_reducible refine Ext.alloc ?_ _) | (with_reducible refine Ext.setCell ?_ (by simp; try omega) _) | (with_reducible refine Ext.trans ?_ (by assumption)) | (with_reducible assumption) | exact Below.refl _ _)))
  have X4 := Lib.hid (X3.out.below (B := v3.heap.size) (show Below v3.heap.size v3 v4 by (repeat (first | (with_reducible exact Below.refl _ _) | (with_reducible refine Ext.drewN ?_ _) | (with_reducible refine Below.drew ?_) | (with_reducible refine Ext.alloc ?_ _) | (with_reducible refine Ext.setCell ?_ (by simp; try omega) _) | (with_reducible refine Ext.trans ?_ (by assumption)) | (with_reducible assumption) | exact Below.refl _ _))) (Nat.le_refl _))
  clear l3 c3
  obtain ⟨l4, c4⟩ := X4.out
  have B4 : v4.cell? ⟨v3.heap.size, 0, none⟩ = some (.slice (some ⟨h3, 0, none⟩) L.length L.length) := keepC bv4 (by simp [go_sem])
  have hs34 : v3.heap.size < v4.heap.size := Nat.lt_of_lt_of_le (by simp) bv4.size
  clear bv4 C3
  have HN := Lib.hid (show (rcV L k).length ≤ 1048576 from Nat.le_trans (rcV_len L k) (sz_len HZS.out))
  have z12 := Lib.hid (show v2.heap.size ≤ v3.heap.size ∧ v3.heap.size ≤ v4.heap.size ∧ w.heap.size ≤ v2.heap.size from ⟨S23.out.size, S34.out.size, W2.out.size⟩)
  have T24 := Lib.hid (show Below v2.heap.size v2 v4 from S23.out.trans (S34.out.mono z12.out.1))
  have IW4 := Lib.hid (IW2.out.kept (fun p hp => T24.out.cell hp) (Nat.le_refl v2.heap.size))
  go_wp2_with fail
  refine (eqInt64S_any ga wa (rcV L k) gc wc _ HN.out IG4.out (IW4.out.mono T24.out.size)).mono ?_
  rintro e v5 ⟨rfl, bv5⟩
  have S45 := Lib.hid (show Below v4.heap.size v4 v5 from bv5)
  have C5 := Lib.hid (C4.out.ext bv5)
  have W5' : Below w.heap.size w v5 := by have b := W4.out; (repeat (first | (with_reducible exact Below.refl _ _) | (with_reducible refine Ext.drewN ?_ _) | (with_reducible refine Below.drew ?_) | (with_reducible refine Ext.alloc ?_ _) | (with_reducible refine Ext.setCell ?_ (by simp; try omega) _) | (with_reducible refine Ext.trans ?_ (by assumption)) | (with_reducible assumption) | exact Below.refl _ _))
  have C5' := C5.out
  have c5 := keepC bv5 c4
  have B5 := keepC bv5 B4
  have s35 : v3.heap.size < v5.heap.size := Nat.lt_of_lt_of_le hs34 bv5.size
  have sw5 : w.heap.size < v5.heap.size := Nat.lt_of_lt_of_le l4 bv5.size
  clear c4 B4 l4 hs34
  have bv5' : Below v4.heap.size v4 v5 := bv5
  clear bv5
  go_wp2_with fail
  go_region_held3 (fun w' => w'.cell? ⟨w.heap.size, 0, none⟩ = some (.slice a L.length cap) ∧ w'.cell? ⟨v3.heap.size, 0, none⟩ = some (.slice (some ⟨h3, 0, none⟩) L.length L.length) ∧ w.heap.size < w'.heap.size ∧ v3.heap.size < w'.heap.size ∧ Below w.heap.size w w' ∧ CelsAt w'.heap.size w' (some ⟨h3, 0, none⟩) L ∧ Below v4.heap.size v4 w')
    (first | ((try dsimp only); go_split_ands; (repeat' (with_reducible refine And.intro ?_ ?_)) <;> first | (with_reducible assumption) | (with_reducible exact keepC (by assumption) (by assumption)) | ((try simp only [World.size_drew]); omega) | (with_reducible exact CelsAt.ext (by assumption) (by assumption)) | (with_reducible exact CelsAt.ext (by assumption) (Below.refl _ _).drew) | (with_reducible exact Below.drew (by assumption)) | (with_reducible exact Below.trans (by assumption) (Below.mono (by assumption) (by omega))) | ((repeat (first | (with_reducible exact Below.refl _ _) | (with_reducible refine Ext.drewN ?_ _) | (with_reducible refine Below.drew ?_) | (with_reducible refine Ext.alloc ?_ _) | (with_reducible refine Ext.setCell ?_ (by simp; try omega) _) | (with_reducible refine Ext.trans ?_ (by assumption)) | (with_reducible assumption) | exact Below.refl _ _)); done) | (go_keep; done)))
    (first | (go_at_call 27; refine (toLibrary_any a L cap _ HZS.out (HL.out.ext ?_)).mono ?_; (go_split_ands; assumption); rintro e v5 ⟨⟨h5, x5, y5, z5, rfl, O5⟩, bv5⟩; have C5 := Lib.hid O5.cels; clear O5; obtain ⟨sv5, zv5, cv5, fv5⟩ := bcell bv5; (try simp only [World.size_alloc, World.size_setCell, World.size_drew] at sv5)) | (go_at_call 28; refine (eqLibrary_any (some ⟨h3, 0, none⟩) _ L _ _ _ HZS.out ?_ C5.out).mono ?_; (go_split_ands; assumption); rintro e v6 ⟨rfl, bv6⟩; obtain ⟨sv6, zv6, cv6, fv6⟩ := bcell bv6; (try simp only [World.size_alloc, World.size_setCell, World.size_drew] at sv6)))
  go_wp2_with fail
  have TT : v6.cell? ⟨w.heap.size, 0, none⟩ = some (.slice a L.length cap) ∧ v6.cell? ⟨v3.heap.size, 0, none⟩ = some (.slice (some ⟨h3, 0, none⟩) L.length L.length) ∧ w.heap.size < v6.heap.size ∧ v3.heap.size < v6.heap.size ∧ Below w.heap.size w v6 ∧ CelsAt v6.heap.size v6 (some ⟨h3, 0, none⟩) L ∧ Below v4.heap.size v4 v6 := by assumption
  obtain ⟨c6, B6, sw6, s36, W6, -, b46⟩ := TT
  have G6 := Lib.hid (show Below v4.heap.size v4 v6 from b46)
  have W6h := Lib.hid W6
  have X6 := Lib.hid (show v6.cell? ⟨w.heap.size, 0, none⟩ = some (.slice a L.length cap) ∧ v6.cell? ⟨v3.heap.size, 0, none⟩ = some (.slice (some ⟨h3, 0, none⟩) L.length L.length) ∧ w.heap.size < v6.heap.size ∧ v3.heap.size < v6.heap.size from ⟨c6, B6, sw6, s36⟩)
  have z46 := Lib.hid G6.out.size
  have IG6 := Lib.hid (IG4.out.ext G6.out)
  have OG6 := Lib.hid (OG4.out.step (St.grown (lo := 0) (hi := 0) G6.out))
  have IW6 := Lib.hid (IW4.out.kept (fun p hp => G6.out.cell (Nat.lt_of_lt_of_le hp T24.out.size)) (Nat.le_refl v2.heap.size))
  have M6 := Lib.hid ((M3.out.step (St.grown S34.out)).step (St.grown G6.out))
  clear IG4 OG4 IW4 M3 C4
  clear c6 B6 sw6 s36 W6 b46
  refine (markLibrary_any L L.length h3 v2.heap.size v3.heap.size x3 y3 z3 _ HZS.out (by have := z12.out; have := z46.out; omega) M6.out).mono ?_
  rintro e v7 ⟨⟨r, rfl, hr0⟩, st7⟩
  have St7 := Lib.hid st7
  have r0 : ¬ r < 0 := by omega
  clear st7
  have z67 := Lib.hid St7.out.size
  have IG7 := Lib.hid (IG6.out.stHi St7.out OG6.out (Nat.le_refl _))
  have OG7 := Lib.hid (OG6.out.step St7.out)
  have IW7 := Lib.hid (IW6.out.st St7.out (by have := z12.out; have := z46.out; omega) (Nat.le_refl _))
  have W7 := Lib.hid (St7.out.below W6h.out (by have := z12.out; omega) (by have := z12.out; have := z46.out; omega))
  have X7 := Lib.hid (show v7.cell? ⟨w.heap.size, 0, none⟩ = some (.slice a L.length cap) ∧ v7.cell? ⟨v3.heap.size, 0, none⟩ = some (.slice (some ⟨h3, 0, none⟩) L.length L.length) from ⟨St7.out.sl _ _ _ _ X6.out.1, St7.out.sl _ _ _ _ X6.out.2.1⟩)
  clear IG6 OG6 IW6 M6
  obtain ⟨c7, B7⟩ := X7.out
  go_wp2_with fail
  refine (eqInt64S_any ga wa (rcV L k) gc wc _ HN.out IG7.out (IW7.out.mono (by have := z12.out; have := z46.out; have := z67.out; omega))).mono ?_
  rintro e v8 ⟨rfl, bv8⟩
  have S78 := Lib.hid (show Below v7.heap.size v7 v8 from bv8)
  have z78 := Lib.hid S78.out.size
  have OG8 := Lib.hid (OG7.out.step (St.grown (lo := 0) (hi := 0) S78.out))
  have IW8 := Lib.hid (IW7.out.kept (fun p hp => S78.out.cell (Nat.lt_of_lt_of_le hp (by have := z12.out; have := z46.out; have := z67.out; omega))) (Nat.le_refl v2.heap.size))
  have W8 := Lib.hid (W7.out.trans (S78.out.mono (by have := z12.out; have := z46.out; have := z67.out; omega)))
  have X8 := Lib.hid (show v8.cell? ⟨w.heap.size, 0, none⟩ = some (.slice a L.length cap) from keepC bv8 c7)
  clear bv8 OG7 IW7 c7 B7 X7
  have c8 := X8.out
  go_wp2_with fail
  refine (markInt64S_any ga (rcV L k).length gc v3.heap.size v4.heap.size _ HN.out OG8.out).mono ?_
  rintro e v9 ⟨rfl, st9, mk9⟩
  have St9 := Lib.hid st9
  have K9 := Lib.hid mk9
  clear st9 mk9
  have z89 := Lib.hid St9.out.size
  have IW9 := Lib.hid (IW8.out.st St9.out (by have := z12.out; have := z46.out; have := z67.out; have := z78.out; omega) (by have := z12.out; omega))
  have W9 := Lib.hid (St9.out.below W8.out (by have := z12.out; omega) (by have := z12.out; have := z46.out; have := z67.out; have := z78.out; omega))
  have X9 := Lib.hid (show v9.cell? ⟨w.heap.size, 0, none⟩ = some (.slice a L.length cap) from St9.out.sl _ _ _ _ X8.out)
  clear OG8 IW8 c8
  have c9 := X9.out
  go_wp2_with fail
  refine (heldInt64S_any ga (rcV L k).length gc _ HN.out K9.out).mono ?_
  rintro e v9' ⟨rfl, rfl⟩
  have qm : ¬ (1 + ((rcV L k).length : Int)) < 0 := by omega
  go_wp2_with fail
  refine (toLibrary_any a L cap _ HZS.out (HL.out.ext W9.out)).mono ?_
  rintro e v10 ⟨⟨h10, x10, y10, z10, rfl, O10⟩, bv10⟩
  have C10 := Lib.hid O10.cels
  have S910 := Lib.hid (show Below v9.heap.size v9 v10 from bv10)
  have W10 := Lib.hid (W9.out.trans (S910.out.mono (by have := z12.out; have := z46.out; have := z67.out; have := z78.out; have := z89.out; omega)))
  clear O10 bv10 c9
  go_wp2_with fail
  refine (implReachableCells_any (some ⟨h10, 0, none⟩) L L.length k _ (HCh.out.ext (by have b := W10.out; (repeat (first | (with_reducible exact Below.refl _ _) | (with_reducible refine Ext.drewN ?_ _) | (with_reducible refine Below.drew ?_) | (with_reducible refine Ext.alloc ?_ _) | (with_reducible refine Ext.setCell ?_ (by simp; try omega) _) | (with_reducible refine Ext.trans ?_ (by assumption)) | (with_reducible assumption) | exact Below.refl _ _)))) HZS.out (C10.out.ext (by (repeat (first | (with_reducible exact Below.refl _ _) | (with_reducible refine Ext.drewN ?_ _) | (with_reducible refine Below.drew ?_) | (with_reducible refine Ext.alloc ?_ _) | (with_reducible refine Ext.setCell ?_ (by simp; try omega) _) | (with_reducible refine Ext.trans ?_ (by assumption)) | (with_reducible assumption) | exact Below.refl _ _))))).mono ?_
  rintro e v11 ⟨⟨_, rfl, ha, hc, rfl, oh⟩, bv11⟩
  have IH11 := Lib.hid (own_ints oh)
  clear oh
  have S911 := Lib.hid (show Below v9.heap.size v9 v11 by have b := S910.out; (repeat (first | (with_reducible exact Below.refl _ _) | (with_reducible refine Ext.drewN ?_ _) | (with_reducible refine Below.drew ?_) | (with_reducible refine Ext.alloc ?_ _) | (with_reducible refine Ext.setCell ?_ (by simp; try omega) _) | (with_reducible refine Ext.trans ?_ (by assumption)) | (with_reducible assumption) | exact Below.refl _ _)))
  have W11 := Lib.hid (W9.out.trans (S911.out.mono (by have := z12.out; have := z46.out; have := z67.out; have := z78.out; have := z89.out; omega)))
  have IW11 := Lib.hid (IW9.out.kept (fun p hp => S911.out.cell (Nat.lt_of_lt_of_le hp (by have := z12.out; have := z46.out; have := z67.out; have := z78.out; have := z89.out; omega))) (Nat.le_refl v2.heap.size))
  have K11 := Lib.hid (K9.out.ext S911.out)
  have z911 := Lib.hid S911.out.size
  clear bv11 C10 IW9 K9
  go_wp2_with fail
  refine (eqInt64S_any ha wa (rcV L k) hc wc _ HN.out IH11.out (IW11.out.mono (by have := z12.out; have := z46.out; have := z67.out; have := z78.out; have := z89.out; have := z911.out; omega))).mono ?_
  rintro e v12 ⟨rfl, bv12⟩
  have K12 := Lib.hid (K11.out.ext bv12)
  have W12 := Lib.hid (W11.out.trans (bv12.mono (by have := z12.out; have := z46.out; have := z67.out; have := z78.out; have := z89.out; have := z911.out; omega)))
  clear bv12
  go_wp2_with fail
  refine (heldInt64S_any ga (rcV L k).length gc _ HN.out K12.out).mono ?_
  rintro e v12' ⟨rfl, rfl⟩
  go_wp2_with fail
  go_ret
  exact ⟨rfl, W12.out⟩
end Go.Proofs.YtciodcknobccdaaDoor
