/- FnExactSelectOverlapping answers true. Conditions: the rectangles' cells are in memory; the variables that regions read hold their tables. -/
import Derived.Test.YtepfnnhmplaocaaDoorCpZ
import Derived.Test.YtepfnnhmplaocaaDoorCpL
import Derived.Test.YtepfnnhmplaocaaDoorQP
import Derived.Test.YtepfnnhmplaocaaDoorQI
namespace Go.Proofs.YtepfnnhmplaocaaDoor
open Go.RowKit
set_option linter.unusedVariables false
set_option linter.unusedSimpArgs false

set_option maxHeartbeats 16000000 in
set_option maxRecDepth 100000 in
theorem walkSelectOverlapping (a0 : Option Addr) (n0 c0 : Nat) (a1 : Option Addr) (n1 c1 : Nat) (w : World) (hn0 : n0 ≤ maxLen) (hPe0 : ∃ P Q R S, RectsIs w.heap.size w a0 n0 P Q R S) (hn1 : n1 ≤ maxLen) (hPe1 : ∃ P Q R S, RectsIs w.heap.size w a1 n1 P Q R S) (hDb : EnvW w) :
    Calls Tryd.prog 12 #[.slice a0 n0 c0, .slice a1 n1 c1] w fun e w' => e = .returned (.bool true) ∧ Below w.heap.size w w' := by
  obtain ⟨P0, Q0, R0, S0, hP0⟩ := hPe0
  have HP0 := Lib.hid hP0
  obtain ⟨P1, Q1, R1, S1, hP1⟩ := hPe1
  have HP1 := Lib.hid hP1
  have HD := Lib.hid hDb
  clear hP0 hP1 hDb
  by_cases h0 : (n0 : Int) ≤ 1048576
  case neg =>
    go_enter Tryd.func12, Tryd.ntmps12
    go_wp2_with fail
    refine (szRectS_any a0 n0 c0 (1048576) _ (by omega) (by omega) hn0).mono ?_
    rintro e w1 ⟨rfl, rfl⟩
    rw [if_neg (by omega)]
    go_wp2_with fail
    go_ret
    exact ⟨rfl, Below.refl _ _⟩
  have q0 : ¬ (1048576 - (n0 : Int) < 0) := by omega
  have k0 : n0 ≤ 1048576 := by omega
  by_cases h1 : (n1 : Int) ≤ 1048576 - (n0 : Int)
  case neg =>
    go_enter Tryd.func12, Tryd.ntmps12
    go_wp2_with fail
    refine (szRectS_any a0 n0 c0 (1048576) _ (by omega) (by omega) hn0).mono ?_
    rintro e w1 ⟨rfl, rfl⟩
    rw [if_pos h0]
    go_wp2_with fail
    refine (szRectS_any a1 n1 c1 (1048576 - (n0 : Int)) _ (by omega) (by omega) hn1).mono ?_
    rintro e w1 ⟨rfl, rfl⟩
    rw [if_neg (by omega)]
    go_wp2_with fail
    go_ret
    exact ⟨rfl, Below.refl _ _⟩
  have q1 : ¬ (1048576 - (n0 : Int) - (n1 : Int) < 0) := by omega
  have k1 : n1 ≤ 1048576 := by omega
  have hlen := so_len P0 Q0 R0 S0 n0 P1 Q1 R1 S1 n1
  obtain ⟨l, hl⟩ : ∃ l, l = soL P0 Q0 R0 S0 n0 P1 Q1 R1 S1 n1 := ⟨_, rfl⟩
  rw [← hl] at hlen
  have HL := Lib.hid hl
  clear hl
  obtain ⟨N, hN⟩ : ∃ N, N = l.length := ⟨_, rfl⟩
  have HN := Lib.hid hN
  rw [← hN] at hlen
  clear hN
  have hmm : ((1 + 4 * (N : Int)) != (1 + 4 * (N : Int))) = false := by simp
  have hnn : ¬ (1 + 4 * (N : Int)) < 0 := by omega
  have hk : ¬ (1 + 4 * (n0 : Int) + 4 * (n1 : Int)) < 0 := by omega
  go_enter Tryd.func12, Tryd.ntmps12
  go_wp2_with fail
  refine (szRectS_any a0 n0 c0 (1048576) _ (by omega) (by omega) hn0).mono ?_
  rintro e w1 ⟨rfl, rfl⟩
  rw [if_pos h0]
  go_wp2_with fail
  refine (szRectS_any a1 n1 c1 (1048576 - (n0 : Int)) _ (by omega) (by omega) hn1).mono ?_
  rintro e w1 ⟨rfl, rfl⟩
  rw [if_pos h1]
  go_wp2_with fail
  refine (toRectS_any a0 n0 c0 P0 Q0 R0 S0 _ k0 HP0.out).mono ?_
  rintro e u0 ⟨g10, ga10, gb10, rfl, bu0, T0⟩
  have T0 := Lib.hid T0
  have BU0 := bu0
  go_wp2_with fail
  refine (toRectS_any a1 n1 c1 P1 Q1 R1 S1 _ k1 (HP1.out.ext BU0)).mono ?_
  rintro e u1 ⟨g11, ga11, gb11, rfl, bu1, T1⟩
  have T1 := Lib.hid T1
  have T0 := Lib.hid (T0.out.ext bu1)
  have BU1 := Ext.trans BU0 bu1
  go_wp2_with fail
  refine (specSelectOverlapping_all (some ⟨g10, 0, none⟩) n0 n0 P0 Q0 R0 S0 (some ⟨g11, 0, none⟩) n1 n1 P1 Q1 R1 S1 _ k0 k1 T0.out T1.out).mono ?_
  rintro e w2 ⟨⟨a9, c9, rfl, RZ⟩, bw2⟩
  rw [← HL.out, ← HN.out]
  rw [← HL.out] at RZ
  have RZ := Lib.hid RZ
  have B2 := Ext.trans BU1 bw2
  clear T0 bu0 BU0 ga10 gb10 T1 bu1 BU1 ga11 gb11 bw2
  go_wp2_with fail
  refine (toRectS_row a0 n0 c0 P0 Q0 R0 S0 _ k0 (HP0.out.ext B2)).mono ?_
  rintro e v0 ⟨g0, ga0, gb0, rfl, bv0, X0⟩
  have X0 := Lib.hid X0
  have RZ := Lib.hid (RZ.out.below bv0)
  have BV0 := Ext.trans B2 bv0
  have lv0 := bv0.size
  go_wp2_with fail
  refine (toRectS_row a1 n1 c1 P1 Q1 R1 S1 _ k1 (HP1.out.ext BV0)).mono ?_
  rintro e v1 ⟨g1, ga1, gb1, rfl, bv1, X1⟩
  have X1 := Lib.hid X1
  have X0 := Lib.hid (X0.out.below bv1 gb0)
  have gb0 := Nat.lt_of_lt_of_le gb0 bv1.size
  have RZ := Lib.hid (RZ.out.below (bv1.mono (by have := bv0.size; omega)))
  have BV1 := Ext.trans BV0 bv1
  have lv1 := bv1.size
  have B3 := BV1
  clear bv0 bv1 BV0
  go_wp2_with fail
  refine (implSelectOverlapping_any (some ⟨g0, 0, none⟩) n0 n0 P0 Q0 R0 S0 (some ⟨g1, 0, none⟩) n1 n1 P1 Q1 R1 S1 _ k0 (Nat.le_refl _) k1 (Nat.le_refl _) (HD.out.ext B3) X0.out.rects X1.out.rects).mono ?_
  rintro e w4 ⟨⟨a4, c4, rfl, O4⟩, bw4⟩
  rw [← HL.out, ← HN.out]
  rw [← HL.out] at O4
  have O := Lib.hid O4
  clear O4
  have RZ := Lib.hid (RZ.out.below (bw4.mono (by omega)))
  have X0 := Lib.hid (X0.out.below bw4 gb0)
  have X1 := Lib.hid (X1.out.below bw4 gb1)
  have Bc := Ext.trans B3 bw4
  have l4 := bw4.size
  have gc0 := Nat.lt_of_lt_of_le gb0 l4
  have gc1 := Nat.lt_of_lt_of_le gb1 l4
  clear bw4
  go_wp2_with fail
  rw [HN.out]
  refine (eqRectS_any a4 a9 l.length c4 c9 (pA l) (pB l) (pC l) (pD l) _ (by have := HN.out; omega) O.out.rects (RZ.out.mono (by omega))).mono ?_
  rintro e w5 ⟨rfl, bw5⟩
  rw [← HN.out]
  have X0 := Lib.hid (X0.out.below bw5 gc0)
  have X1 := Lib.hid (X1.out.below bw5 gc1)
  have O := Lib.hid (O.out.below bw5)
  have RZ := Lib.hid (RZ.out.below (bw5.mono (by omega)))
  have Bc := Ext.trans Bc bw5
  have lsw5 := bw5.size
  have gc0 := Nat.lt_of_lt_of_le gc0 lsw5
  have gc1 := Nat.lt_of_lt_of_le gc1 lsw5
  clear bw5
  go_wp2_with fail
  refine (toRectS_any a0 n0 c0 P0 Q0 R0 S0 _ k0 (HP0.out.ext Bc)).mono ?_
  rintro e x0 ⟨g60, ga60, gb60, rfl, bx0, T0⟩
  have T0 := Lib.hid T0
  have X0 := Lib.hid (X0.out.below bx0 gc0)
  have X1 := Lib.hid (X1.out.below bx0 gc1)
  have O := Lib.hid (O.out.below bx0)
  have RZ := Lib.hid (RZ.out.below (bx0.mono (by omega)))
  have Bc := Ext.trans Bc bx0
  have lsx0 := bx0.size
  have gc0 := Nat.lt_of_lt_of_le gc0 lsx0
  have gc1 := Nat.lt_of_lt_of_le gc1 lsx0
  clear bx0
  go_wp2_with fail
  refine (eqRectS_any (some ⟨g0, 0, none⟩) (some ⟨g60, 0, none⟩) n0 n0 n0 P0 Q0 R0 S0 _ k0 X0.out.rects T0.out).mono ?_
  rintro e y0 ⟨rfl, by0⟩
  clear T0
  have X0 := Lib.hid (X0.out.below by0 gc0)
  have X1 := Lib.hid (X1.out.below by0 gc1)
  have O := Lib.hid (O.out.below by0)
  have RZ := Lib.hid (RZ.out.below (by0.mono (by omega)))
  have Bc := Ext.trans Bc by0
  have lsy0 := by0.size
  have gc0 := Nat.lt_of_lt_of_le gc0 lsy0
  have gc1 := Nat.lt_of_lt_of_le gc1 lsy0
  clear by0
  go_wp2_with fail
  refine (toRectS_any a1 n1 c1 P1 Q1 R1 S1 _ k1 (HP1.out.ext Bc)).mono ?_
  rintro e x1 ⟨g61, ga61, gb61, rfl, bx1, T1⟩
  have T1 := Lib.hid T1
  have X0 := Lib.hid (X0.out.below bx1 gc0)
  have X1 := Lib.hid (X1.out.below bx1 gc1)
  have O := Lib.hid (O.out.below bx1)
  have RZ := Lib.hid (RZ.out.below (bx1.mono (by omega)))
  have Bc := Ext.trans Bc bx1
  have lsx1 := bx1.size
  have gc0 := Nat.lt_of_lt_of_le gc0 lsx1
  have gc1 := Nat.lt_of_lt_of_le gc1 lsx1
  clear bx1
  go_wp2_with fail
  refine (eqRectS_any (some ⟨g1, 0, none⟩) (some ⟨g61, 0, none⟩) n1 n1 n1 P1 Q1 R1 S1 _ k1 X1.out.rects T1.out).mono ?_
  rintro e y1 ⟨rfl, by1⟩
  clear T1
  have X0 := Lib.hid (X0.out.below by1 gc0)
  have X1 := Lib.hid (X1.out.below by1 gc1)
  have O := Lib.hid (O.out.below by1)
  have RZ := Lib.hid (RZ.out.below (by1.mono (by omega)))
  have Bc := Ext.trans Bc by1
  have lsy1 := by1.size
  have gc0 := Nat.lt_of_lt_of_le gc0 lsy1
  have gc1 := Nat.lt_of_lt_of_le gc1 lsy1
  clear by1
  go_wp2_with fail
  refine (markRectS_rowK g0 n0 n0 (1) P0 Q0 R0 S0 _ k0 (by omega) (by omega) (by omega) X0.out).mono ?_
  rintro e z0 ⟨rfl, -, hw0⟩
  have O := Lib.hid (O.out.wr hw0 gb0)
  have RZ := Lib.hid (RZ.out.below (Wr.below (Below.refl _ _) hw0 (by omega) (by omega)))
  have lz0 := hw0.size
  have Bc := Wr.below Bc hw0 (by have := Bc.size; omega) (by have := B2.size; omega)
  have X1 := Lib.hid (hw0.rows X1.out (by omega) (by omega))
  have gc1 := Nat.lt_of_lt_of_le gc1 lz0
  clear X0 hw0
  go_wp2_with fail
  refine (markRectS_rowK g1 n1 n1 (1 + 4 * (n0 : Int)) P1 Q1 R1 S1 _ k1 (by omega) (by omega) (by omega) X1.out).mono ?_
  rintro e z1 ⟨rfl, -, hw1⟩
  have O := Lib.hid (O.out.wr hw1 gb1)
  have RZ := Lib.hid (RZ.out.below (Wr.below (Below.refl _ _) hw1 (by omega) (by omega)))
  have lz1 := hw1.size
  have Bc := Wr.below Bc hw1 (by have := Bc.size; omega) (by have := B2.size; omega)
  clear X1 hw1
  go_wp2_with fail
  rw [HN.out]
  refine (eqRectS_any a4 a9 l.length c4 c9 (pA l) (pB l) (pC l) (pD l) _ (by have := HN.out; omega) O.out.rects (RZ.out.mono (by omega))).mono ?_
  rintro e w9 ⟨rfl, bw9⟩
  rw [← HN.out]
  have O := Lib.hid (O.out.below bw9)
  have RZ := Lib.hid (RZ.out.below (bw9.mono (by omega)))
  have Bc := Ext.trans Bc bw9
  have lsw9 := bw9.size
  clear bw9
  go_wp2_with fail
  rw [HN.out]
  refine (markOwn v1.heap.size a4 l c4 1 _ (by omega) (by have := HN.out; omega) (by omega) (by omega) O.out).mono ?_
  rintro e w10 ⟨rfl, H10, bw10⟩
  rw [← HN.out]
  have H := Lib.hid H10
  clear H10
  have RZ := Lib.hid (RZ.out.below (bw10.mono (by omega)))
  have B10 : Below w.heap.size w w10 := Bc.trans (bw10.mono (by have := B3.size; omega))
  have l10 := bw10.size
  clear O bw10 Bc
  go_wp2_with fail
  rw [HN.out]
  refine (heldOwn v1.heap.size a4 l.length c4 1 _ (by have := HN.out; omega) (by omega) (by omega) H.out).mono ?_
  rintro e w10' ⟨rfl, rfl⟩
  rw [← HN.out]
  go_wp2_with fail
  refine (toRectS_any a0 n0 c0 P0 Q0 R0 S0 _ k0 (HP0.out.ext B10)).mono ?_
  rintro e s0 ⟨g80, ga80, gb80, rfl, bs0, T0⟩
  have T0 := Lib.hid T0
  have H := Lib.hid (H.out.below bs0)
  have RZ := Lib.hid (RZ.out.below (bs0.mono (by omega)))
  have BS0 := Ext.trans B10 bs0
  have lt0 := bs0.size
  go_wp2_with fail
  refine (toRectS_any a1 n1 c1 P1 Q1 R1 S1 _ k1 (HP1.out.ext BS0)).mono ?_
  rintro e s1 ⟨g81, ga81, gb81, rfl, bs1, T1⟩
  have T1 := Lib.hid T1
  have T0 := Lib.hid (T0.out.ext bs1)
  have H := Lib.hid (H.out.below bs1)
  have RZ := Lib.hid (RZ.out.below (bs1.mono (by omega)))
  have BS1 := Ext.trans BS0 bs1
  have lt1 := bs1.size
  go_wp2_with fail
  refine (implSelectOverlapping_any (some ⟨g80, 0, none⟩) n0 n0 P0 Q0 R0 S0 (some ⟨g81, 0, none⟩) n1 n1 P1 Q1 R1 S1 _ k0 (Nat.le_refl _) k1 (Nat.le_refl _) (HD.out.ext BS1) T0.out T1.out).mono ?_
  rintro e w12 ⟨⟨a12, c12, rfl, O12⟩, bw12⟩
  rw [← HL.out, ← HN.out]
  rw [← HL.out] at O12
  have O := Lib.hid O12
  clear O12
  have H := Lib.hid (H.out.below bw12)
  have RZ := Lib.hid (RZ.out.below (bw12.mono (by omega)))
  have B12 := Ext.trans BS1 bw12
  have l12 := bw12.size
  clear bw12
  go_wp2_with fail
  rw [HN.out]
  refine (eqRectS_any a12 a9 l.length c12 c9 (pA l) (pB l) (pC l) (pD l) _ (by have := HN.out; omega) O.out.rects (RZ.out.mono (by omega))).mono ?_
  rintro e w13 ⟨rfl, bw13⟩
  rw [← HN.out]
  have H := Lib.hid (H.out.below bw13)
  have B13 := Ext.trans B12 bw13
  clear bw13 RZ O
  go_wp2_with fail
  rw [HN.out]
  refine (heldOwn v1.heap.size a4 l.length c4 1 _ (by have := HN.out; omega) (by omega) (by omega) H.out).mono ?_
  rintro e w14 ⟨rfl, rfl⟩
  rw [← HN.out]
  go_wp2_with fail
  go_ret
  exact ⟨rfl, B13⟩
end Go.Proofs.YtepfnnhmplaocaaDoor
