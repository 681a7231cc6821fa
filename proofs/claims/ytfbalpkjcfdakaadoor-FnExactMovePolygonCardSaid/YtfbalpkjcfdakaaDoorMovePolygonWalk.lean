/- FnExactMovePolygon answers true. Conditions: the points' cells are in memory; the variable orientationMatrices holds its table. -/
import Derived.Test.YtfbalpkjcfdakaaDoorMpC
namespace Go.Proofs.YtfbalpkjcfdakaaDoor
open Go.RowKit
set_option linter.unusedVariables false
set_option linter.unusedSimpArgs false
theorem PtsIs.mono {B C : Nat} {w : World} {a : Option Addr} {n : Nat} {X Y : Nat → Int} (h : PtsIs B w a n X Y) (hBC : B ≤ C) : PtsIs C w a n X Y := fun i hi => by
  obtain ⟨b, o, e, hb, r⟩ := h i hi
  exact ⟨b, o, e, Nat.lt_of_lt_of_le hb hBC, r⟩

set_option maxHeartbeats 16000000 in
set_option maxRecDepth 100000 in
theorem walkMovePolygon (o x y : Int) (a : Option Addr) (n c1 : Nat) (w : World) (hM : Mats w) (hn : n ≤ maxLen) (hPe : ∃ X Y, PtsIs w.heap.size w a n X Y) :
    Calls Tryd.prog 3 #[.agg #[.int .i64 o, .int .i64 x, .int .i64 y], .slice a n c1] w fun e w' => e = .returned (.bool true) ∧ Below w.heap.size w w' := by
  obtain ⟨X, Y, hP⟩ := hPe
  have HP := Lib.hid hP
  clear hP
  by_cases h1 : n ≤ 1048576
  case neg =>
    go_enter Tryd.func3, Tryd.ntmps3
    go_wp2_with fail
    refine (szPointS_any a n c1 1048576 _ (by omega) (by omega) hn).mono ?_
    rintro e w1 ⟨rfl, rfl⟩
    rw [if_neg (by omega)]
    go_wp2_with fail
    go_ret
    exact ⟨rfl, by (repeat (first | (with_reducible exact Below.refl _ _) | (with_reducible refine Ext.drewN ?_ _) | (with_reducible refine Below.drew ?_) | (with_reducible refine Ext.alloc ?_ _) | (with_reducible refine Ext.setCell ?_ (by simp; try omega) _) | (with_reducible refine Ext.trans ?_ (by assumption)) | (with_reducible assumption) | exact Below.refl _ _))⟩
  have q1 : ¬ ((1048576 : Int) - n < 0) := by omega
  have hlen := mqN_le o x y X Y n
  obtain ⟨N, hN⟩ : ∃ N, N = mqN o x y X Y n := ⟨_, rfl⟩
  rw [← hN] at hlen
  have HN := Lib.hid hN
  obtain ⟨b, hb⟩ : ∃ b, b = mqB o x y X Y n := ⟨_, rfl⟩
  have HB := Lib.hid hb
  obtain ⟨U, hU⟩ : ∃ U, U = mqX o x y X Y n := ⟨_, rfl⟩
  have HU := Lib.hid hU
  obtain ⟨V, hV⟩ : ∃ V, V = mqY o x y X Y n := ⟨_, rfl⟩
  have HV := Lib.hid hV
  clear hN hb hU hV
  have hne : (!(b == b)) = false := by simp
  have hne' : (b != b) = false := by simp
  have hmm : ((1 + 2 * (N : Int)) != (1 + 2 * (N : Int))) = false := by simp
  have hnn : ¬ (1 + 2 * (N : Int)) < 0 := by omega
  have hn1 : ¬ (1 + 2 * (n : Int)) < 0 := by omega
  go_enter Tryd.func3, Tryd.ntmps3
  go_wp2_with fail
  refine (szPointS_any a n c1 1048576 _ (by omega) (by omega) hn).mono ?_
  rintro e w1 ⟨rfl, rfl⟩
  rw [if_pos (by omega)]
  go_wp2_with fail
  refine (toTransform_any o x y _).mono ?_
  rintro e w0 ⟨rfl, bw0⟩
  have B0 : Below w.heap.size w w0 := by (repeat (first | (with_reducible exact Below.refl _ _) | (with_reducible refine Ext.drewN ?_ _) | (with_reducible refine Below.drew ?_) | (with_reducible refine Ext.alloc ?_ _) | (with_reducible refine Ext.setCell ?_ (by simp; try omega) _) | (with_reducible refine Ext.trans ?_ (by assumption)) | (with_reducible assumption) | exact Below.refl _ _))
  have l0 := bw0.size
  rw [World.size_alloc] at l0
  have E0 : Hid (BoxT w0 w.heap.size o x y) := Lib.hid ⟨keepC bw0 (by simp [go_sem]), keepC bw0 (by simp [go_sem]), keepC bw0 (by simp [go_sem])⟩
  clear bw0
  go_wp2_with fail
  refine (toPointS_any a n c1 X Y _ h1 (HP.out.ext B0)).mono ?_
  rintro e w1 ⟨g1, ga1, gb1, rfl, bw1, P1⟩
  have E1 := Lib.hid (E0.out.keep bw1 (by omega))
  have l1 := bw1.size
  clear E0
  go_wp2_with fail
  refine (specMovePolygon_any o x y (some ⟨g1, 0, none⟩) n n X Y _ h1 P1).mono ?_
  rintro e w2 ⟨⟨a0, c0, rfl, R0⟩, bw2⟩
  have E2 := Lib.hid (E1.out.keep bw2 (by omega))
  have l2 := bw2.size
  clear E1
  rw [← HN.out, ← HB.out]
  rw [← HN.out, ← HU.out, ← HV.out] at R0
  have B2 := Ext.trans (Ext.trans B0 bw1) bw2
  clear bw1 bw2 P1 ga1 gb1
  have R0 := Lib.hid R0
  go_wp2_with fail
  refine (toPointS_row a n c1 X Y _ h1 (HP.out.ext B2)).mono ?_
  rintro e w3a ⟨g3, ga3, gb3a, rfl, bw3a, X3a⟩
  have X3a := Lib.hid X3a
  have E3a := E2.out.keep bw3a (by omega)
  obtain ⟨x0, x1, x2⟩ := E3a
  go_wp2_with fail
  refine (toTransform_any o x y _).mono ?_
  rintro e w3 ⟨rfl, bw3b⟩
  have bw3 : Below w2.heap.size w2 w3 := Ext.trans bw3a bw3b
  have gb3 : g3 < w3.heap.size := Nat.lt_of_lt_of_le gb3a bw3b.size
  have B3 := Ext.trans B2 bw3
  have R3 := Lib.hid (R0.out.below bw3)
  have X3 := Lib.hid (X3a.out.below bw3b gb3a)
  have E3 := Lib.hid (E2.out.keep bw3 (by omega))
  have lw3 : w.heap.size < w3.heap.size := by have := bw3.size; omega
  clear R0 X3a bw3a bw3b E2 x0 x1 x2
  go_wp2_with fail
  refine (implMovePolygon_any o x y (some ⟨g3, 0, none⟩) n n X Y _ h1 (Mats.below hM B3 hM.size) X3.out.pts).mono ?_
  rintro e w4 ⟨⟨a4, c4, rfl, O4⟩, bw4⟩
  rw [← HN.out, ← HB.out]
  rw [← HN.out, ← HU.out, ← HV.out] at O4
  have O4 := Lib.hid O4
  have B4 := Ext.trans B3 bw4
  have R4 := Lib.hid (R3.out.below (bw4.mono bw3.size))
  have X4 := Lib.hid (X3.out.below bw4 gb3)
  have l4 := bw4.size
  have l23 := bw3.size
  have E4 := Lib.hid (E3.out.keep bw4 lw3)
  clear R3 X3 bw4 bw3 E3
  go_wp2_with fail
  refine (eqPointS_any a4 a0 N c4 c0 U V _ (by omega) O4.out.pts (R4.out.mono (by omega))).mono ?_
  rintro e w5 ⟨rfl, bw5⟩
  have B5 := Ext.trans B4 bw5
  go_wp2_with fail
  refine (toPointS_any a n c1 X Y _ h1 (HP.out.ext B5)).mono ?_
  rintro e w6 ⟨g6, ga6, gb6, rfl, bw6, P6⟩
  have X6 := Lib.hid (X4.out.below (Ext.trans bw5 bw6) (by omega))
  go_wp2_with fail
  refine (eqPointS_any (some ⟨g3, 0, none⟩) (some ⟨g6, 0, none⟩) n n n X Y _ h1 X6.out.pts P6).mono ?_
  rintro e w7 ⟨rfl, bw7⟩
  have K := Ext.trans (Ext.trans bw5 bw6) bw7
  have O7 := Lib.hid (O4.out.below K)
  have R7 := Lib.hid (R4.out.below (K.mono (by omega)))
  have X7 := Lib.hid (X4.out.below K (by omega))
  have B7 := Ext.trans B4 K
  have l7 := K.size
  have E7 := Lib.hid (E4.out.keep K (by omega))
  clear E4
  clear O4 R4 X4 X6 K bw5 bw6 bw7 P6 B5 ga6 gb6
  go_wp2_with fail
  refine (markPointS_row g3 n n 1 X Y _ h1 (by omega) (by omega) (by omega) X7.out).mono ?_
  rintro e w8 ⟨rfl, -, hw⟩
  have O8 := Lib.hid (O7.out.wr hw gb3)
  have R8 := Lib.hid (R7.out.below (Wr.below (Below.refl _ _) hw (by omega) ga3))
  have l8 := hw.size
  have E8 := Lib.hid (E7.out.wr hw (by omega))
  clear E7
  have B8 : Below w.heap.size w w8 := Wr.below B7 hw (by have := B7.size; omega) (by have := B2.size; omega)
  clear O7 R7 X7 hw B7
  go_wp2_with fail
  refine (eqPointS_any a4 a0 N c4 c0 U V _ (by omega) O8.out.pts (R8.out.mono (by omega))).mono ?_
  rintro e w9 ⟨rfl, bw9⟩
  have O9 := Lib.hid (O8.out.below bw9)
  have R9 := Lib.hid (R8.out.below (bw9.mono (by omega)))
  have B9 := Ext.trans B8 bw9
  have l9 := bw9.size
  have E9 := Lib.hid (E8.out.keep bw9 (by omega))
  clear E8
  clear O8 R8 bw9
  go_wp2_with fail
  refine (markOwnP w3.heap.size a4 N c4 U V 1 _ (by omega) (by omega) (by omega) (by omega) O9.out).mono ?_
  rintro e w10 ⟨rfl, H10, bw10⟩
  have H10 := Lib.hid H10
  have R10 := Lib.hid (R9.out.below (bw10.mono (by omega)))
  have B10 : Below w.heap.size w w10 := B9.trans (bw10.mono (by have := B3.size; omega))
  have l10 := bw10.size
  have E10 := Lib.hid (E9.out.keep bw10 lw3)
  clear E9
  clear O9 R9 bw10
  go_wp2_with fail
  refine (heldOwnP w3.heap.size a4 N c4 1 _ (by omega) (by omega) (by omega) H10.out).mono ?_
  rintro e w10' ⟨rfl, rfl⟩
  obtain ⟨x0, x1, x2⟩ := E10.out
  go_wp2_with fail
  refine (toTransform_any o x y _).mono ?_
  rintro e wt ⟨rfl, bwt⟩
  have BT := Ext.trans B10 bwt
  have lt := bwt.size
  clear x0 x1 x2 E10
  go_wp2_with fail
  refine (toPointS_any a n c1 X Y _ h1 (HP.out.ext BT)).mono ?_
  rintro e w11 ⟨g11, ga11, gb11, rfl, bw11a, P11⟩
  have bw11 := Ext.trans bwt bw11a
  have B11 := Ext.trans B10 bw11
  clear bw11a bwt
  go_wp2_with fail
  refine (implMovePolygon_any o x y (some ⟨g11, 0, none⟩) n n X Y _ h1 (Mats.below hM B11 hM.size) P11).mono ?_
  rintro e w12 ⟨⟨a12, c12, rfl, O12⟩, bw12⟩
  rw [← HN.out, ← HB.out]
  rw [← HN.out, ← HU.out, ← HV.out] at O12
  have K := Ext.trans bw11 bw12
  have O12 := Lib.hid O12
  have R12 := Lib.hid (R10.out.below (K.mono (by omega)))
  have H12 := Lib.hid (H10.out.below K)
  have B12 := Ext.trans B10 K
  have l12 := K.size
  clear R10 H10 K bw11 bw12 P11 ga11 gb11
  go_wp2_with fail
  refine (eqPointS_any a12 a0 N c12 c0 U V _ (by omega) O12.out.pts (R12.out.mono (by omega))).mono ?_
  rintro e w13 ⟨rfl, bw13⟩
  have H13 := Lib.hid (H12.out.below bw13)
  have B13 := Ext.trans B12 bw13
  clear bw13 R12 H12 O12
  go_wp2_with fail
  refine (heldOwnP w3.heap.size a4 N c4 1 _ (by omega) (by omega) (by omega) H13.out).mono ?_
  rintro e w14 ⟨rfl, rfl⟩
  go_wp2_with fail
  go_ret
  exact ⟨rfl, B13⟩
theorem walkMovePolygon' (o x y : Int) (a : Option Addr) (n c1 : Nat) (w : World) (hn : n ≤ maxLen) (hPe : ∃ X Y, PtsIs w.heap.size w a n X Y) (hM : Mats w) :
    Calls Tryd.prog 3 #[.agg #[.int .i64 o, .int .i64 x, .int .i64 y], .slice a n c1] w fun e w' => e = .returned (.bool true) ∧ Below w.heap.size w w' := walkMovePolygon o x y a n c1 w hM hn hPe
end Go.Proofs.YtfbalpkjcfdakaaDoor
