/- FnExactRegionFromEdges answers true. Conditions: the edges' cells are in memory; the variables that regions read hold their tables. -/
import Derived.Test.YtfbalpkjcfdakaaGreatDoorZI
import Derived.Test.YtfbalpkjcfdakaaGreatDoorQI
namespace Go.Proofs.YtfbalpkjcfdakaaGreatDoor
open Go.RowKit
set_option linter.unusedVariables false
set_option linter.unusedSimpArgs false

set_option maxHeartbeats 16000000 in
set_option maxRecDepth 100000 in
theorem walkRegionFromEdges (a : Option Addr) (n c1 : Nat) (w : World) (hn : n ≤ maxLen) (hPe : ∃ P Q R S, RectsIs w.heap.size w a n P Q R S) (hDb : EnvW w) (hM : Mats w) :
    Calls Tryz.prog 5 #[.slice a n c1] w fun e w' => e = .returned (.bool true) ∧ Below w.heap.size w w' := by
  obtain ⟨P, Q, R, S, hP⟩ := hPe
  have HP := Lib.hid hP
  have HD := Lib.hid hDb
  clear hP hDb
  by_cases h1 : n ≤ 1048576
  case neg =>
    go_enter Tryz.func5, Tryz.ntmps5
    go_wp2_with fail
    refine (szEdgeS_any a n c1 1048576 _ (by omega) (by omega) hn).mono ?_
    rintro e w1 ⟨rfl, rfl⟩
    rw [if_neg (by omega)]
    go_wp2_with fail
    go_ret
    exact ⟨rfl, Below.refl _ _⟩
  have q1 : ¬ ((1048576 : Int) - n < 0) := by omega
  have hlen := rfL_len P Q R S n
  obtain ⟨l, hl⟩ : ∃ l, l = rfL P Q R S n := ⟨_, rfl⟩
  rw [← hl] at hlen
  have HL := Lib.hid hl
  obtain ⟨b, hb⟩ : ∃ b, b = rfB P Q R S n := ⟨_, rfl⟩
  have HB := Lib.hid hb
  clear hl hb
  obtain ⟨N, hN⟩ : ∃ N, N = l.length := ⟨_, rfl⟩
  have HN := Lib.hid hN
  rw [← hN] at hlen
  clear hN
  have hne : (!(b == b)) = false := by simp
  have hne' : (b != b) = false := by simp
  have hmm : ((1 + 4 * (N : Int)) != (1 + 4 * (N : Int))) = false := by simp
  have hnn : ¬ (1 + 4 * (N : Int)) < 0 := by omega
  have hn1 : ¬ (1 + 4 * (n : Int)) < 0 := by omega
  go_enter Tryz.func5, Tryz.ntmps5
  go_wp2_with fail
  refine (szEdgeS_any a n c1 1048576 _ (by omega) (by omega) hn).mono ?_
  rintro e w1 ⟨rfl, rfl⟩
  rw [if_pos (by omega)]
  go_wp2_with fail
  refine (toEdgeS_any a n c1 P Q R S _ h1 HP.out).mono ?_
  rintro e w1 ⟨g1, ga1, gb1, rfl, bw1, P1⟩
  go_wp2_with fail
  refine (specRegionFromEdges_any (some ⟨g1, 0, none⟩) n n P Q R S _ h1 P1).mono ?_
  rintro e w2 ⟨⟨a0, c0, rfl, R0⟩, bw2⟩
  rw [← HL.out, ← HB.out, ← HN.out]
  rw [← HL.out] at R0
  have B2 := Ext.trans bw1 bw2
  clear bw1 bw2 P1 ga1 gb1
  have R0 := Lib.hid R0
  go_wp2_with fail
  refine (toEdgeS_row a n c1 P Q R S _ h1 (HP.out.ext B2)).mono ?_
  rintro e w3 ⟨g3, ga3, gb3, rfl, bw3, X3⟩
  have B3 := Ext.trans B2 bw3
  have R3 := Lib.hid (R0.out.below bw3)
  have X3 := Lib.hid X3
  clear R0
  go_wp2_with fail
  refine (implRegionFromEdges_any g3 0 n n P Q R S _ h1 (HD.out.ext B3) (hM.below B3 hM.size) X3.out.rects).mono ?_
  rintro e w4 ⟨⟨a4, c4, rfl, O4⟩, bw4⟩
  rw [← HL.out, ← HB.out, ← HN.out]
  rw [← HL.out] at O4
  have O4 := Lib.hid O4
  have B4 := Ext.trans B3 bw4
  have R4 := Lib.hid (R3.out.below (bw4.mono bw3.size))
  have X4 := Lib.hid (X3.out.below bw4 gb3)
  have l4 := bw4.size
  have l23 := bw3.size
  clear R3 X3 bw4 bw3
  go_wp2_with fail
  rw [HN.out]
  refine (eqRectS_any a4 a0 l.length c4 c0 (pA l) (pB l) (pC l) (pD l) _ (by have := HN.out; omega) O4.out.rects (R4.out.mono (by omega))).mono ?_
  rintro e w5 ⟨rfl, bw5⟩
  rw [← HN.out]
  have B5 := Ext.trans B4 bw5
  go_wp2_with fail
  refine (toEdgeS_any a n c1 P Q R S _ h1 (HP.out.ext B5)).mono ?_
  rintro e w6 ⟨g6, ga6, gb6, rfl, bw6, P6⟩
  have X6 := Lib.hid (X4.out.below (Ext.trans bw5 bw6) (by omega))
  go_wp2_with fail
  refine (eqEdgeS_any (some ⟨g3, 0, none⟩) (some ⟨g6, 0, none⟩) n n n P Q R S _ h1 X6.out.rects P6).mono ?_
  rintro e w7 ⟨rfl, bw7⟩
  have K := Ext.trans (Ext.trans bw5 bw6) bw7
  have O7 := Lib.hid (O4.out.below K)
  have R7 := Lib.hid (R4.out.below (K.mono (by omega)))
  have X7 := Lib.hid (X4.out.below K (by omega))
  have B7 := Ext.trans B4 K
  have l7 := K.size
  clear O4 R4 X4 X6 K bw5 bw6 bw7 P6 B5 ga6 gb6
  go_wp2_with fail
  refine (markEdgeS_row g3 n n 1 P Q R S _ h1 (by omega) (by omega) (by omega) X7.out).mono ?_
  rintro e w8 ⟨rfl, -, hw⟩
  have O8 := Lib.hid (O7.out.wr hw gb3)
  have R8 := Lib.hid (R7.out.below (Wr.below (Below.refl _ _) hw (by omega) ga3))
  have l8 := hw.size
  have B8 : Below w.heap.size w w8 := Wr.below B7 hw (by have := B7.size; omega) (by have := B2.size; omega)
  clear O7 R7 X7 hw B7
  go_wp2_with fail
  rw [HN.out]
  refine (eqRectS_any a4 a0 l.length c4 c0 (pA l) (pB l) (pC l) (pD l) _ (by have := HN.out; omega) O8.out.rects (R8.out.mono (by omega))).mono ?_
  rintro e w9 ⟨rfl, bw9⟩
  rw [← HN.out]
  have O9 := Lib.hid (O8.out.below bw9)
  have R9 := Lib.hid (R8.out.below (bw9.mono (by omega)))
  have B9 := Ext.trans B8 bw9
  have l9 := bw9.size
  clear O8 R8 bw9
  go_wp2_with fail
  rw [HN.out]
  refine (markOwn w3.heap.size a4 l c4 1 _ (by omega) (by have := HN.out; omega) (by omega) (by omega) O9.out).mono ?_
  rintro e w10 ⟨rfl, H10, bw10⟩
  rw [← HN.out]
  have H10 := Lib.hid H10
  have R10 := Lib.hid (R9.out.below (bw10.mono (by omega)))
  have B10 : Below w.heap.size w w10 := B9.trans (bw10.mono (by have := B3.size; omega))
  have l10 := bw10.size
  clear O9 R9 bw10
  go_wp2_with fail
  rw [HN.out]
  refine (heldOwn w3.heap.size a4 l.length c4 1 _ (by have := HN.out; omega) (by omega) (by omega) H10.out).mono ?_
  rintro e w10' ⟨rfl, rfl⟩
  rw [← HN.out]
  go_wp2_with fail
  refine (toEdgeS_any a n c1 P Q R S _ h1 (HP.out.ext B10)).mono ?_
  rintro e w11 ⟨g11, ga11, gb11, rfl, bw11, P11⟩
  go_wp2_with fail
  refine (implRegionFromEdges_any g11 0 n n P Q R S _ h1 (HD.out.ext (Ext.trans B10 bw11)) (hM.below (Ext.trans B10 bw11) hM.size) P11).mono ?_
  rintro e w12 ⟨⟨a12, c12, rfl, O12⟩, bw12⟩
  rw [← HL.out, ← HB.out, ← HN.out]
  rw [← HL.out] at O12
  have K := Ext.trans bw11 bw12
  have O12 := Lib.hid O12
  have R12 := Lib.hid (R10.out.below (K.mono (by omega)))
  have H12 := Lib.hid (H10.out.below K)
  have B12 := Ext.trans B10 K
  have l12 := K.size
  clear R10 H10 K bw11 bw12 P11 ga11 gb11
  go_wp2_with fail
  rw [HN.out]
  refine (eqRectS_any a12 a0 l.length c12 c0 (pA l) (pB l) (pC l) (pD l) _ (by have := HN.out; omega) O12.out.rects (R12.out.mono (by omega))).mono ?_
  rintro e w13 ⟨rfl, bw13⟩
  rw [← HN.out]
  have H13 := Lib.hid (H12.out.below bw13)
  have B13 := Ext.trans B12 bw13
  clear bw13 R12 H12 O12
  go_wp2_with fail
  rw [HN.out]
  refine (heldOwn w3.heap.size a4 l.length c4 1 _ (by have := HN.out; omega) (by omega) (by omega) H13.out).mono ?_
  rintro e w14 ⟨rfl, rfl⟩
  rw [← HN.out]
  go_wp2_with fail
  go_ret
  exact ⟨rfl, B13⟩
end Go.Proofs.YtfbalpkjcfdakaaGreatDoor
