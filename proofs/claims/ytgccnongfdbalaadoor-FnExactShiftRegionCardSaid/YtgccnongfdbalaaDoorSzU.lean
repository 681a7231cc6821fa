/- ShiftRegion: the model's, the program's and the law's walk. Conditions: the rectangles' cells are in memory; the tied variables. -/
import Derived.Test.YtgccnongfdbalaaDoorQS
namespace Go.Proofs.YtgccnongfdbalaaDoor
open Go.RowKit
set_option linter.unusedVariables false
set_option linter.unusedSimpArgs false
attribute [local go_sem ↓] Go.wp_at_zero Go.wp_at_succ

theorem vld0 (x y : Int) : vldB 0 x y = (inB x (-80) 80 && inB y (-80) 80) := by
  unfold vldB; rw [inB_mk (by decide) (by decide)]; rfl
theorem LRes2_mg0 {x y : Int} {P Q R S : Nat → Int} {n : Nat} {e : Ending} {w : World} (h : okR P Q R S n = false ∨ inB x (-80) 80 = false ∨ inB y (-80) 80 = false) (he : e = .returned (.tuple #[.slice none 0 0, .bool false])) : LRes2 (mgL 0 x y P Q R S n) (mgB 0 x y P Q R S n) e w := by
  refine mg_no ?_ he
  unfold mgB
  rw [vld0]
  rcases h with h | h | h <;> rw [h] <;> simp

set_option maxHeartbeats 8000000 in
theorem specShiftRegion_all (x y : Int) (m : Option Addr) (len cap : Nat) (P Q R S : Nat → Int) (w : World) (hlen : len ≤ 1048576) (hR : RectsIs w.heap.size w m len P Q R S) :
    Calls Tryd.prog 60 #[.slice m len cap, .int .i64 x, .int .i64 y] w fun e w' => LRes2 (mgL 0 x y P Q R S len) (mgB 0 x y P Q R S len) e w' ∧ Below w.heap.size w w' := by
  have HR := Lib.hid hR
  clear hR
  cases hok : okR P Q R S len with
  | false =>
    have HN := Lib.hid hok
    go_enter Tryd.func60, Tryd.ntmps60
    go_wp2_with fail
    refine (l03Ok_any m len cap P Q R S _ hlen HR.out).mono ?_
    rintro e w2 ⟨rfl, bw2⟩
    rw [hok]
    go_wp2_with fail
    go_ret2
    exact ⟨LRes2_mg0 (.inl HN.out) rfl, bw2⟩
  | true =>
    cases hx : inB x (-80) 80 with
    | false =>
      have HN := Lib.hid hx
      go_enter Tryd.func60, Tryd.ntmps60
      go_wp2_with fail
      refine (l03Ok_any m len cap P Q R S _ hlen HR.out).mono ?_
      rintro e w2 ⟨rfl, bw2⟩
      rw [hok]
      go_wp2_with fail
      refine (l01In_any _ _ _ _).mono ?_
      rintro e w3 ⟨rfl, rfl⟩
      rw [hx]
      go_wp2_with fail
      go_ret2
      exact ⟨LRes2_mg0 (.inr (.inl HN.out)) rfl, bw2⟩
    | true =>
      cases hy : inB y (-80) 80 with
      | false =>
        have HN := Lib.hid hy
        go_enter Tryd.func60, Tryd.ntmps60
        go_wp2_with fail
        refine (l03Ok_any m len cap P Q R S _ hlen HR.out).mono ?_
        rintro e w2 ⟨rfl, bw2⟩
        rw [hok]
        go_wp2_with fail
        refine (l01In_any _ _ _ _).mono ?_
        rintro e w3 ⟨rfl, rfl⟩
        rw [hx]
        go_wp2_with fail
        refine (l01In_any _ _ _ _).mono ?_
        rintro e w4 ⟨rfl, rfl⟩
        rw [hy]
        go_wp2_with fail
        go_ret2
        exact ⟨LRes2_mg0 (.inr (.inr HN.out)) rfl, bw2⟩
      | true =>
        have HALL := Lib.hid (okR_all hok)
        have hl := okR_len hok
        have h1 : vldB 0 x y = true := by rw [vld0, hx, hy]; rfl
        have hB : mgB 0 x y P Q R S len = imV 0 x y P Q R S len := by unfold mgB; rw [h1, hok]; rfl
        have hL : mgL 0 x y P Q R S len = mvdL 0 x y P Q R S len := by unfold mgL mvdL; rw [hB]
        rw [hB, hL]
        clear hB hL
        have H1 := Lib.hid h1
        obtain ⟨l, hl'⟩ : ∃ l, l = mvdL 0 x y P Q R S len := ⟨_, rfl⟩
        obtain ⟨b, hb'⟩ : ∃ b, b = imV 0 x y P Q R S len := ⟨_, rfl⟩
        rw [← hl', ← hb']
        have HL := Lib.hid hl'
        have HB := Lib.hid hb'
        clear hl' hb' h1
        go_enter Tryd.func60, Tryd.ntmps60
        go_wp2_with fail
        refine (l03Ok_any m len cap P Q R S _ hlen HR.out).mono ?_
        rintro e w2 ⟨rfl, bw2⟩
        rw [hok]
        go_wp2_with fail
        refine (l01In_any _ _ _ _).mono ?_
        rintro e w3 ⟨rfl, rfl⟩
        rw [hx]
        go_wp2_with fail
        refine (l01In_any _ _ _ _).mono ?_
        rintro e w4 ⟨rfl, rfl⟩
        rw [hy]
        go_wp2_with fail
        refine (l03Moved_any 0 x y m len cap P Q R S _ (by omega) (HR.out.ext (by (repeat (first | (with_reducible exact Below.refl _ _) | (with_reducible refine Ext.drewN ?_ _) | (with_reducible refine Below.drew ?_) | (with_reducible refine Ext.alloc ?_ _) | (with_reducible refine Ext.setCell ?_ (by simp; try omega) _) | (with_reducible refine Ext.trans ?_ (by assumption)) | (with_reducible assumption) | exact Below.refl _ _)))) HALL.out H1.out).mono ?_
        rintro e w5 ⟨⟨a0, c0, rfl, R0⟩, bw5⟩
        rw [← HL.out, ← HB.out]
        rw [← HL.out] at R0
        have R0 := Lib.hid R0
        have B5 : Below w.heap.size w w5 := by (repeat (first | (with_reducible exact Below.refl _ _) | (with_reducible refine Ext.drewN ?_ _) | (with_reducible refine Below.drew ?_) | (with_reducible refine Ext.alloc ?_ _) | (with_reducible refine Ext.setCell ?_ (by simp; try omega) _) | (with_reducible refine Ext.trans ?_ (by assumption)) | (with_reducible assumption) | exact Below.refl _ _))
        clear bw5
        go_wp2_with fail
        go_ret2
        exact ⟨⟨a0, c0, rfl, R0.out⟩, B5⟩

set_option maxHeartbeats 8000000 in
theorem shiftRegion_any (x y : Int) (m : Option Addr) (n cap : Nat) (P Q R S : Nat → Int) (w : World) (hn : n ≤ 1048576) (hcap : n ≤ cap) (hD : EnvW w) (hM : Mats w) (hR : RectsIs w.heap.size w m n P Q R S) :
    Calls Tryd.prog 61 #[.slice m n cap, .int .i64 x, .int .i64 y] w fun e W' => LOwn2 w.heap.size (mgL 0 x y P Q R S n) (mgB 0 x y P Q R S n) e W' ∧ Below w.heap.size w W' := by
  have HR := Lib.hid hR
  have HD := Lib.hid hD
  have HM := Lib.hid hM
  have HC := Lib.hid hcap
  clear hR hD hM hcap
  obtain ⟨l, hl'⟩ : ∃ l, l = mgL 0 x y P Q R S n := ⟨_, rfl⟩
  obtain ⟨b, hb'⟩ : ∃ b, b = mgB 0 x y P Q R S n := ⟨_, rfl⟩
  rw [← hl', ← hb']
  have HL := Lib.hid hl'
  have HB := Lib.hid hb'
  clear hl' hb'
  go_enter Tryd.func61, Tryd.ntmps61
  go_wp2_with fail
  refine (moveRegion_any 0 x y m n cap P Q R S _ hn HC.out (HD.out.ext (by (repeat (first | (with_reducible exact Below.refl _ _) | (with_reducible refine Ext.drewN ?_ _) | (with_reducible refine Below.drew ?_) | (with_reducible refine Ext.alloc ?_ _) | (with_reducible refine Ext.setCell ?_ (by simp; try omega) _) | (with_reducible refine Ext.trans ?_ (by assumption)) | (with_reducible assumption) | exact Below.refl _ _)))) (Mats.below HM.out (show Below w.heap.size w _ by (repeat (first | (with_reducible exact Below.refl _ _) | (with_reducible refine Ext.drewN ?_ _) | (with_reducible refine Below.drew ?_) | (with_reducible refine Ext.alloc ?_ _) | (with_reducible refine Ext.setCell ?_ (by simp; try omega) _) | (with_reducible refine Ext.trans ?_ (by assumption)) | (with_reducible assumption) | exact Below.refl _ _))) HM.out.size) (HR.out.ext (by (repeat (first | (with_reducible exact Below.refl _ _) | (with_reducible refine Ext.drewN ?_ _) | (with_reducible refine Below.drew ?_) | (with_reducible refine Ext.alloc ?_ _) | (with_reducible refine Ext.setCell ?_ (by simp; try omega) _) | (with_reducible refine Ext.trans ?_ (by assumption)) | (with_reducible assumption) | exact Below.refl _ _))))).mono ?_
  rintro e w2 ⟨⟨a0, c0, rfl, O0⟩, bw2⟩
  rw [← HL.out, ← HB.out]
  rw [← HL.out] at O0
  have O0 := Lib.hid O0
  have B2 : Below w.heap.size w w2 := by (repeat (first | (with_reducible exact Below.refl _ _) | (with_reducible refine Ext.drewN ?_ _) | (with_reducible refine Below.drew ?_) | (with_reducible refine Ext.alloc ?_ _) | (with_reducible refine Ext.setCell ?_ (by simp; try omega) _) | (with_reducible refine Ext.trans ?_ (by assumption)) | (with_reducible assumption) | exact Below.refl _ _))
  have lw : w.heap.size ≤ w2.heap.size := B2.size
  go_wp2_with fail
  go_ret2
  exact ⟨⟨a0, c0, rfl, OwnsL.mono O0.out (by omega)⟩, B2⟩

/- WALK -/
set_option maxHeartbeats 16000000 in
set_option maxRecDepth 100000 in
theorem walkShiftRegion (a : Option Addr) (n c1 : Nat) (x y : Int) (w : World) (hn : n ≤ maxLen) (hPe : ∃ P Q R S, RectsIs w.heap.size w a n P Q R S) (hDb : EnvW w) (hM : Mats w) :
    Calls Tryd.prog 15 #[.slice a n c1, .int .i64 x, .int .i64 y] w fun e w' => e = .returned (.bool true) ∧ Below w.heap.size w w' := by
  obtain ⟨P, Q, R, S, hP⟩ := hPe
  have HP := Lib.hid hP
  have HD := Lib.hid hDb
  clear hP hDb
  by_cases h1 : n ≤ 1048576
  case neg =>
    go_enter Tryd.func15, Tryd.ntmps15
    go_wp2_with fail
    refine (szRectS_any a n c1 1048576 _ (by omega) (by omega) hn).mono ?_
    rintro e w1 ⟨rfl, rfl⟩
    rw [if_neg (by omega)]
    go_wp2_with fail
    go_ret
    exact ⟨rfl, by (repeat (first | (with_reducible exact Below.refl _ _) | (with_reducible refine Ext.drewN ?_ _) | (with_reducible refine Below.drew ?_) | (with_reducible refine Ext.alloc ?_ _) | (with_reducible refine Ext.setCell ?_ (by simp; try omega) _) | (with_reducible refine Ext.trans ?_ (by assumption)) | (with_reducible assumption) | exact Below.refl _ _))⟩
  have q1 : ¬ ((1048576 : Int) - n < 0) := by omega
  have hlen := mgL_len 0 x y P Q R S n
  obtain ⟨l, hl⟩ : ∃ l, l = mgL 0 x y P Q R S n := ⟨_, rfl⟩
  rw [← hl] at hlen
  have HL := Lib.hid hl
  obtain ⟨b, hb⟩ : ∃ b, b = mgB 0 x y P Q R S n := ⟨_, rfl⟩
  have HB := Lib.hid hb
  clear hl hb
  obtain ⟨N, hN⟩ : ∃ N, N = l.length := ⟨_, rfl⟩
  have HN := Lib.hid hN
  rw [← hN] at hlen
  clear hN
  have hne : (!(b == b)) = false := by simp
  have hne' : (b != b) = false := by simp
  have hmm : ((1 + 4 * (N : Int)) != (1 + 4 * (N : Int))) = false := by simp
  have hnn : ¬ (1 + 4 * (N : Int)) < 0 := by omega
  have hn1 : ¬ (1 + 4 * (n : Int)) < 0 := by omega
  go_enter Tryd.func15, Tryd.ntmps15
  go_wp2_with fail
  refine (szRectS_any a n c1 1048576 _ (by omega) (by omega) hn).mono ?_
  rintro e w1 ⟨rfl, rfl⟩
  rw [if_pos (by omega)]
  have B0 : Below w.heap.size w w := Below.refl _ _
  go_wp2_with fail
  refine (toRectS_any a n c1 P Q R S _ h1 HP.out).mono ?_
  rintro e w1 ⟨g1, ga1, gb1, rfl, bw1, P1⟩
  have l1 := bw1.size
  go_wp2_with fail
  refine (specShiftRegion_all x y (some ⟨g1, 0, none⟩) n n P Q R S _ h1 P1).mono ?_
  rintro e w2 ⟨⟨a0, c0, rfl, R0⟩, bw2⟩
  have l2 := bw2.size
  rw [← HL.out, ← HB.out, ← HN.out]
  rw [← HL.out] at R0
  have B2 := Ext.trans (Ext.trans B0 bw1) bw2
  clear bw1 bw2 P1 ga1 gb1
  have R0 := Lib.hid R0
  go_wp2_with fail
  refine (toRectS_row a n c1 P Q R S _ h1 (HP.out.ext B2)).mono ?_
  rintro e w3 ⟨g3, ga3, gb3, rfl, bw3, X3a⟩
  have X3 := Lib.hid X3a
  have B3 := Ext.trans B2 bw3
  have R3 := Lib.hid (R0.out.below bw3)
  have lw3 : w.heap.size < w3.heap.size := by have := bw3.size; omega
  clear R0 X3a
  go_wp2_with fail
  refine (shiftRegion_any x y (some ⟨g3, 0, none⟩) n n P Q R S _ h1 (Nat.le_refl _) (HD.out.ext B3) (Mats.below hM B3 hM.size) X3.out.rects).mono ?_
  rintro e w4 ⟨⟨a4, c4, rfl, O4⟩, bw4⟩
  rw [← HL.out, ← HB.out, ← HN.out]
  rw [← HL.out] at O4
  have O4 := Lib.hid O4
  have B4 := Ext.trans B3 bw4
  have R4 := Lib.hid (R3.out.below (bw4.mono bw3.size))
  have X4 := Lib.hid (X3.out.below bw4 gb3)
  have l4 := bw4.size
  have l23 := bw3.size
  clear R3 X3 bw4 bw3
  go_wp2_with fail
  rw [HN.out]
  refine (eqRectS_any a4 a0 l.length c4 c0 (pA l) (pB l) (pC l) (pD l) _ (by have := HN.out; omega) O4.out.rects (R4.out.mono (by omega))).mono ?_
  rintro e w5 ⟨rfl, bw5⟩
  rw [← HN.out]
  have B5 := Ext.trans B4 bw5
  go_wp2_with fail
  refine (toRectS_any a n c1 P Q R S _ h1 (HP.out.ext B5)).mono ?_
  rintro e w6 ⟨g6, ga6, gb6, rfl, bw6, P6⟩
  have X6 := Lib.hid (X4.out.below (Ext.trans bw5 bw6) (by omega))
  go_wp2_with fail
  refine (eqRectS_any (some ⟨g3, 0, none⟩) (some ⟨g6, 0, none⟩) n n n P Q R S _ h1 X6.out.rects P6).mono ?_
  rintro e w7 ⟨rfl, bw7⟩
  have K := Ext.trans (Ext.trans bw5 bw6) bw7
  have O7 := Lib.hid (O4.out.below K)
  have R7 := Lib.hid (R4.out.below (K.mono (by omega)))
  have X7 := Lib.hid (X4.out.below K (by omega))
  have B7 := Ext.trans B4 K
  have l7 := K.size
  clear O4 R4 X4 X6 K bw5 bw6 bw7 P6 B5 ga6 gb6
  go_wp2_with fail
  refine (markRectS_row g3 n n 1 P Q R S _ h1 (by omega) (by omega) (by omega) X7.out).mono ?_
  rintro e w8 ⟨rfl, -, hw⟩
  have O8 := Lib.hid (O7.out.wr hw gb3)
  have R8 := Lib.hid (R7.out.below (Wr.below (Below.refl _ _) hw (by omega) ga3))
  have l8 := hw.size
  have B8 : Below w.heap.size w w8 := Wr.below B7 hw (by have := B7.size; omega) (by have := B2.size; omega)
  clear O7 R7 X7 hw B7
  go_wp2_with fail
  rw [HN.out]
  refine (eqRectS_any a4 a0 l.length c4 c0 (pA l) (pB l) (pC l) (pD l) _ (by have := HN.out; omega) O8.out.rects (R8.out.mono (by omega))).mono ?_
  rintro e w9 ⟨rfl, bw9⟩
  rw [← HN.out]
  have O9 := Lib.hid (O8.out.below bw9)
  have R9 := Lib.hid (R8.out.below (bw9.mono (by omega)))
  have B9 := Ext.trans B8 bw9
  have l9 := bw9.size
  clear O8 R8 bw9
  go_wp2_with fail
  rw [HN.out]
  refine (markOwn w3.heap.size a4 l c4 1 _ (by omega) (by have := HN.out; omega) (by omega) (by omega) O9.out).mono ?_
  rintro e w10 ⟨rfl, H10, bw10⟩
  rw [← HN.out]
  have H10 := Lib.hid H10
  have R10 := Lib.hid (R9.out.below (bw10.mono (by omega)))
  have B10 : Below w.heap.size w w10 := B9.trans (bw10.mono (by have := B3.size; omega))
  have l10 := bw10.size
  clear O9 R9 bw10
  go_wp2_with fail
  rw [HN.out]
  refine (heldOwn w3.heap.size a4 l.length c4 1 _ (by have := HN.out; omega) (by omega) (by omega) H10.out).mono ?_
  rintro e w10' ⟨rfl, rfl⟩
  rw [← HN.out]
  go_wp2_with fail
  refine (toRectS_any a n c1 P Q R S _ h1 (HP.out.ext B10)).mono ?_
  rintro e w11 ⟨g11, ga11, gb11, rfl, bw11, P11⟩
  have B11 := Ext.trans B10 bw11
  go_wp2_with fail
  refine (shiftRegion_any x y (some ⟨g11, 0, none⟩) n n P Q R S _ h1 (Nat.le_refl _) (HD.out.ext B11) (Mats.below hM B11 hM.size) P11).mono ?_
  rintro e w12 ⟨⟨a12, c12, rfl, O12⟩, bw12⟩
  rw [← HL.out, ← HB.out, ← HN.out]
  rw [← HL.out] at O12
  have K := Ext.trans bw11 bw12
  have O12 := Lib.hid O12
  have R12 := Lib.hid (R10.out.below (K.mono (by omega)))
  have H12 := Lib.hid (H10.out.below K)
  have B12 := Ext.trans B10 K
  have l12 := K.size
  clear R10 H10 K bw11 bw12 P11 ga11 gb11
  go_wp2_with fail
  rw [HN.out]
  refine (eqRectS_any a12 a0 l.length c12 c0 (pA l) (pB l) (pC l) (pD l) _ (by have := HN.out; omega) O12.out.rects (R12.out.mono (by omega))).mono ?_
  rintro e w13 ⟨rfl, bw13⟩
  rw [← HN.out]
  have H13 := Lib.hid (H12.out.below bw13)
  have B13 := Ext.trans B12 bw13
  clear bw13 R12 H12 O12
  go_wp2_with fail
  rw [HN.out]
  refine (heldOwn w3.heap.size a4 l.length c4 1 _ (by have := HN.out; omega) (by omega) (by omega) H13.out).mono ?_
  rintro e w14 ⟨rfl, rfl⟩
  rw [← HN.out]
  go_wp2_with fail
  go_ret
  exact ⟨rfl, B13⟩
end Go.Proofs.YtgccnongfdbalaaDoor
