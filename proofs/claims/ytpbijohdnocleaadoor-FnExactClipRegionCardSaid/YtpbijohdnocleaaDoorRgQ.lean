/- The walk of FnExactClipRegion over a contract of the program's function. Condition: the rectangles' cells are in memory. -/
import Derived.Test.YtpbijohdnocleaaDoorRgN
import Derived.Test.YtpbijohdnocleaaDoorRiC
namespace Go.Proofs.YtpbijohdnocleaaDoor
open Go.RowKit
set_option linter.unusedVariables false
set_option linter.unusedSimpArgs false

/-- The contract that the walk asks of the program's ClipRegion. -/
def ImplClipRegion : Prop := ∀ (m : Option Addr) (n cap : Nat) (P Q R S : Nat → Int) (p q r s : Int) (W : World), n ≤ 1048576 → n ≤ cap → EnvW W → RectsIs W.heap.size W m n P Q R S → Calls Tryd.prog 42 #[.slice m n cap, .agg #[.int .i64 p, .int .i64 q, .int .i64 r, .int .i64 s]] W fun e W' => LOwn W.heap.size (clL P Q R S n p q r s) e W' ∧ Below W.heap.size W W'

/-- A box of four numbers. -/
def Box4 (w : World) (g : Nat) (p q r s : Int) : Prop := w.cell? ⟨g, 0, none⟩ = some (.int .i64 p) ∧ w.cell? ⟨g, 1, none⟩ = some (.int .i64 q) ∧ w.cell? ⟨g, 2, none⟩ = some (.int .i64 r) ∧ w.cell? ⟨g, 3, none⟩ = some (.int .i64 s)
theorem Box4.keep {B g : Nat} {w w' : World} {p q r s : Int} (h : Box4 w g p q r s) (hb : Below B w w') (hg : g < B) : Box4 w' g p q r s :=
  ⟨(hb.cell (p := ⟨g, 0, none⟩) hg).trans h.1, (hb.cell (p := ⟨g, 1, none⟩) hg).trans h.2.1, (hb.cell (p := ⟨g, 2, none⟩) hg).trans h.2.2.1, (hb.cell (p := ⟨g, 3, none⟩) hg).trans h.2.2.2⟩
theorem Box4.wr {g b : Nat} {w w' : World} {p q r s : Int} (h : Box4 w b p q r s) (hw : Wr g w w') (hne : b ≠ g) : Box4 w' b p q r s :=
  ⟨hw.cell h.1 hne, hw.cell h.2.1 hne, hw.cell h.2.2.1 hne, hw.cell h.2.2.2 hne⟩

set_option maxHeartbeats 16000000 in
set_option maxRecDepth 100000 in
theorem walkClipRegion (hI : ImplClipRegion) (a : Option Addr) (n c1 : Nat) (p q r s : Int) (w : World) (hn : n ≤ maxLen) (hPe : ∃ P Q R S, RectsIs w.heap.size w a n P Q R S) (hDb : EnvW w) :
    Calls Tryd.prog 9 #[.slice a n c1, .agg #[.int .i64 p, .int .i64 q, .int .i64 r, .int .i64 s]] w fun e w' => e = .returned (.bool true) ∧ Below w.heap.size w w' := by
  obtain ⟨P, Q, R, S, hP⟩ := hPe
  have HP := Lib.hid hP
  have HI := Lib.hid hI
  have HD := Lib.hid hDb
  clear hP hI hDb
  by_cases h1 : n ≤ 1048576
  case neg =>
    go_enter Tryd.func9, Tryd.ntmps9
    go_wp2_with fail
    refine (szRectS_any a n c1 1048576 _ (by omega) (by omega) hn).mono ?_
    rintro e w1 ⟨rfl, rfl⟩
    rw [if_neg (by omega)]
    go_wp2_with fail
    go_ret
    exact ⟨rfl, by (repeat (first | (with_reducible exact Below.refl _ _) | (with_reducible refine Ext.drewN ?_ _) | (with_reducible refine Below.drew ?_) | (with_reducible refine Ext.alloc ?_ _) | (with_reducible refine Ext.setCell ?_ (by simp; try omega) _) | (with_reducible refine Ext.trans ?_ (by assumption)) | (with_reducible assumption) | exact Below.refl _ _))⟩
  have q1 : ¬ ((1048576 : Int) - n < 0) := by omega
  have hlen := clL_len P Q R S n p q r s
  obtain ⟨l, hl⟩ : ∃ l, l = clL P Q R S n p q r s := ⟨_, rfl⟩
  rw [← hl] at hlen
  have HL := Lib.hid hl
  clear hl
  obtain ⟨N, hN⟩ : ∃ N, N = l.length := ⟨_, rfl⟩
  have HN := Lib.hid hN
  rw [← hN] at hlen
  clear hN
  have hmm : ((1 + 4 * (N : Int)) != (1 + 4 * (N : Int))) = false := by simp
  have hnn : ¬ (1 + 4 * (N : Int)) < 0 := by omega
  have hn1 : ¬ (1 + 4 * (n : Int)) < 0 := by omega
  go_enter Tryd.func9, Tryd.ntmps9
  go_wp2_with fail
  refine (szRectS_any a n c1 1048576 _ (by omega) (by omega) hn).mono ?_
  rintro e w1 ⟨rfl, rfl⟩
  rw [if_pos (by omega)]
  go_wp2_with fail
  have HP0 := Lib.hid (HP.out.ext (Ext.alloc (Below.refl _ _) (.cells #[.int .i64 p, .int .i64 q, .int .i64 r, .int .i64 s] 45)))
  go_cut [6] (fun s6 wx => ∃ a0 c0, s6 = .slice a0 N c0 ∧ Hid (RectsL wx.heap.size wx a0 l) ∧ Below w.heap.size w wx ∧ w.heap.size < wx.heap.size ∧ wx.cell? ⟨w.heap.size, 0, none⟩ = some (.int .i64 p) ∧ wx.cell? ⟨w.heap.size, 1, none⟩ = some (.int .i64 q) ∧ wx.cell? ⟨w.heap.size, 2, none⟩ = some (.int .i64 r) ∧ wx.cell? ⟨w.heap.size, 3, none⟩ = some (.int .i64 s))
  case first =>
    go_region_held3 (fun w' => w.heap.size < w'.heap.size ∧ Below w.heap.size w w' ∧ w'.cell? ⟨w.heap.size, 0, none⟩ = some (.int .i64 p) ∧ w'.cell? ⟨w.heap.size, 1, none⟩ = some (.int .i64 q) ∧ w'.cell? ⟨w.heap.size, 2, none⟩ = some (.int .i64 r) ∧ w'.cell? ⟨w.heap.size, 3, none⟩ = some (.int .i64 s))
      (first | ((try dsimp only); go_split_ands; (repeat' (with_reducible refine And.intro ?_ ?_)) <;> first | ((repeat (with_reducible refine keepS ?_ (by simp; try omega) _)); (first | (with_reducible assumption) | (with_reducible exact keepC (by assumption) (by assumption)) | (with_reducible exact keepA (by assumption) _) | (with_reducible exact keepR (by assumption) (by omega) _))) | ((try simp only [World.size_alloc, World.size_setCell, World.size_drew]); omega) | (refine Mats.below hM ?_ hM.size; (repeat (first | (with_reducible exact Below.refl _ _) | (with_reducible refine Ext.drewN ?_ _) | (with_reducible refine Below.drew ?_) | (with_reducible refine Ext.alloc ?_ _) | (with_reducible refine Ext.setCell ?_ (by simp; try omega) _) | (with_reducible refine Ext.trans ?_ (by assumption)) | (with_reducible assumption) | exact Below.refl _ _)); done) | ((repeat (first | (with_reducible exact Below.refl _ _) | (with_reducible refine Ext.drewN ?_ _) | (with_reducible refine Below.drew ?_) | (with_reducible refine Ext.alloc ?_ _) | (with_reducible refine Ext.setCell ?_ (by simp; try omega) _) | (with_reducible refine Ext.trans ?_ (by assumption)) | (with_reducible assumption) | exact Below.refl _ _)); done) | (go_keep; done)))
      (first | (go_at_call 21; refine (toRectS_any a n c1 P Q R S _ h1 (HP.out.ext ?_)).mono ?_; (go_split_ands; assumption); rintro e v1 ⟨g1, ga1, gb1, rfl, bv1, P1⟩; have P1 := Lib.hid P1; obtain ⟨sv1, zv1, cv1, fv1⟩ := bcell bv1; (try simp only [World.size_alloc, World.size_setCell, World.size_drew] at sv1)) | (go_at_call 41; refine (toRect_any _ _ _ _ _).mono ?_; rintro e v2 ⟨rfl, bv2⟩; obtain ⟨sv2, zv2, cv2, fv2⟩ := bcell bv2; (try simp only [World.size_alloc, World.size_setCell, World.size_drew] at sv2)) | (go_at_call 40; refine (specClip_all (some ⟨g1, 0, none⟩) n n P Q R S p q r s _ h1 (by first | exact P1.out | exact P1.out.ext (by assumption))).mono ?_; rintro e v3 ⟨⟨a0, c0, rfl, R0⟩, bv3⟩; have R0 := Lib.hid R0; obtain ⟨sv3, zv3, cv3, fv3⟩ := bcell bv3; (try simp only [World.size_alloc, World.size_setCell, World.size_drew] at sv3)))
    all_goals
      go_split_ands
      have hs3 := bv3.size
      go_wp2_with fail
      go_meet
      refine ⟨a0, c0, by rw [HN.out, HL.out], by rw [HL.out]; exact R0, ?_, ?_, ?_, ?_, ?_, ?_⟩
      all_goals first | assumption | (with_reducible assumption) | ((repeat (first | (with_reducible exact Below.refl _ _) | (with_reducible refine Ext.drewN ?_ _) | (with_reducible refine Below.drew ?_) | (with_reducible refine Ext.alloc ?_ _) | (with_reducible refine Ext.setCell ?_ (by simp; try omega) _) | (with_reducible refine Ext.trans ?_ (by assumption)) | (with_reducible assumption) | exact Below.refl _ _)); done) | omega
  case rest =>
    obtain ⟨a0, c0, rfl, R0, B2, lw2, E0⟩ := hcut
    rename World => w2
    have E0 : Box4 w2 w.heap.size p q r s := E0
    go_wp2_with fail
    refine (toRectS_row a n c1 P Q R S _ h1 (HP.out.ext B2)).mono ?_
    rintro e w3a ⟨g3, ga3, gb3a, rfl, bw3a, X3a⟩
    have X3a := Lib.hid X3a
    have E3a := E0.keep bw3a lw2
    obtain ⟨x0, x1, x2, x3⟩ := E3a
    go_wp2_with fail
    refine (toRect_any _ _ _ _ _).mono ?_
    rintro e w3 ⟨rfl, bw3b⟩
    have bw3 : Below w2.heap.size w2 w3 := Ext.trans bw3a bw3b
    have gb3 : g3 < w3.heap.size := Nat.lt_of_lt_of_le gb3a bw3b.size
    have B3 := Ext.trans B2 bw3
    have R3 := Lib.hid (R0.out.below bw3)
    have X3 := Lib.hid (X3a.out.below bw3b gb3a)
    have E3 := E0.keep bw3 lw2
    have lw3 : w.heap.size < w3.heap.size := Nat.lt_of_lt_of_le lw2 bw3.size
    clear R0 X3a bw3a bw3b E0 x0 x1 x2 x3
    have E3 := Lib.hid E3
    go_wp2_with fail
    refine (HI.out (some ⟨g3, 0, none⟩) n n P Q R S p q r s _ h1 (Nat.le_refl _) (HD.out.ext B3) X3.out.rects).mono ?_
    rintro e w4 ⟨⟨a4, c4, rfl, O4⟩, bw4⟩
    rw [← HL.out, ← HN.out]
    rw [← HL.out] at O4
    have O4 := Lib.hid O4
    have B4 := Ext.trans B3 bw4
    have R4 := Lib.hid (R3.out.below (bw4.mono bw3.size))
    have X4 := Lib.hid (X3.out.below bw4 gb3)
    have l4 := bw4.size
    have l23 := bw3.size
    have E4 := Lib.hid (E3.out.keep bw4 lw3)
    clear R3 X3 bw4 bw3 E3
    go_wp2_with fail
    rw [HN.out]
    refine (eqRectS_any a4 a0 l.length c4 c0 (pA l) (pB l) (pC l) (pD l) _ (by have := HN.out; omega) O4.out.rects (R4.out.mono (by omega))).mono ?_
    rintro e w5 ⟨rfl, bw5⟩
    rw [← HN.out]
    have B5 := Ext.trans B4 bw5
    go_wp2_with fail
    refine (toRectS_any a n c1 P Q R S _ h1 (HP.out.ext B5)).mono ?_
    rintro e w6 ⟨g6, ga6, gb6, rfl, bw6, P6⟩
    have X6 := Lib.hid (X4.out.below (Ext.trans bw5 bw6) (by omega))
    go_wp2_with fail
    refine (eqRectS_any (some ⟨g3, 0, none⟩) (some ⟨g6, 0, none⟩) n n n P Q R S _ h1 X6.out.rects P6).mono ?_
    rintro e w7 ⟨rfl, bw7⟩
    have K := Ext.trans (Ext.trans bw5 bw6) bw7
    have O7 := Lib.hid (O4.out.below K)
    have R7 := Lib.hid (R4.out.below (K.mono (by omega)))
    have X7 := Lib.hid (X4.out.below K (by omega))
    have B7 := Ext.trans B4 K
    have E7 := Lib.hid (E4.out.keep K (by omega))
    have l7 := K.size
    clear O4 R4 X4 X6 K bw5 bw6 bw7 P6 B5 ga6 gb6
    go_wp2_with fail
    refine (markRectS_row g3 n n 1 P Q R S _ h1 (by omega) (by omega) (by omega) X7.out).mono ?_
    rintro e w8 ⟨rfl, -, hw⟩
    have O8 := Lib.hid (O7.out.wr hw gb3)
    have R8 := Lib.hid (R7.out.below (Wr.below (Below.refl _ _) hw (by omega) ga3))
    have l8 := hw.size
    have B8 : Below w.heap.size w w8 := Wr.below B7 hw (by have := B7.size; omega) (by have := B2.size; omega)
    have E8 := Lib.hid (E7.out.wr hw (by omega))
    clear O7 R7 X7 hw B7 E7
    go_wp2_with fail
    rw [HN.out]
    refine (eqRectS_any a4 a0 l.length c4 c0 (pA l) (pB l) (pC l) (pD l) _ (by have := HN.out; omega) O8.out.rects (R8.out.mono (by omega))).mono ?_
    rintro e w9 ⟨rfl, bw9⟩
    rw [← HN.out]
    have O9 := Lib.hid (O8.out.below bw9)
    have R9 := Lib.hid (R8.out.below (bw9.mono (by omega)))
    have B9 := Ext.trans B8 bw9
    have l9 := bw9.size
    have E9 := Lib.hid (E8.out.keep bw9 (by omega))
    clear O8 R8 bw9 E8
    go_wp2_with fail
    rw [HN.out]
    refine (markOwn w3.heap.size a4 l c4 1 _ (by omega) (by have := HN.out; omega) (by omega) (by omega) O9.out).mono ?_
    rintro e w10 ⟨rfl, H10, bw10⟩
    rw [← HN.out]
    have H10 := Lib.hid H10
    have R10 := Lib.hid (R9.out.below (bw10.mono (by omega)))
    have B10 : Below w.heap.size w w10 := B9.trans (bw10.mono (by have := B3.size; omega))
    have HB10 := Lib.hid B10
    have l10 := bw10.size
    have E10 := Lib.hid (E9.out.keep bw10 lw3)
    clear O9 R9 bw10 E9
    go_wp2_with fail
    rw [HN.out]
    refine (heldOwn w3.heap.size a4 l.length c4 1 _ (by have := HN.out; omega) (by omega) (by omega) H10.out).mono ?_
    rintro e w10' ⟨rfl, rfl⟩
    rw [← HN.out]
    have lw10 : w.heap.size < w10.heap.size := by omega
    obtain ⟨x0, x1, x2, x3⟩ := E10.out
    go_wp2_with fail
    go_cut [12] (fun s12 wx => ∃ a12 c12, s12 = .slice a12 N c12 ∧ Hid (OwnsL w10.heap.size wx a12 l) ∧ Below w10.heap.size w10 wx)
    case first =>
      clear H10 R10 B10
      have B10 : Below w.heap.size w w10 := HB10.out
      go_region_held3 (fun w' => w10.heap.size ≤ w'.heap.size ∧ Below w10.heap.size w10 w' ∧ w'.cell? ⟨w.heap.size, 0, none⟩ = some (.int .i64 p) ∧ w'.cell? ⟨w.heap.size, 1, none⟩ = some (.int .i64 q) ∧ w'.cell? ⟨w.heap.size, 2, none⟩ = some (.int .i64 r) ∧ w'.cell? ⟨w.heap.size, 3, none⟩ = some (.int .i64 s))
        (first | ((try dsimp only); go_split_ands; (repeat' (with_reducible refine And.intro ?_ ?_)) <;> first | ((repeat (with_reducible refine keepS ?_ (by simp; try omega) _)); (first | (with_reducible assumption) | (with_reducible exact keepC (by assumption) (by assumption)) | (with_reducible exact keepA (by assumption) _) | (with_reducible exact keepR (by assumption) (by omega) _))) | ((try simp only [World.size_alloc, World.size_setCell, World.size_drew]); omega) | (refine Mats.below hM ?_ hM.size; (repeat (first | (with_reducible exact Below.refl _ _) | (with_reducible refine Ext.drewN ?_ _) | (with_reducible refine Below.drew ?_) | (with_reducible refine Ext.alloc ?_ _) | (with_reducible refine Ext.setCell ?_ (by simp; try omega) _) | (with_reducible refine Ext.trans ?_ (by assumption)) | (with_reducible assumption) | exact Below.refl _ _)); done) | ((repeat (first | (with_reducible exact Below.refl _ _) | (with_reducible refine Ext.drewN ?_ _) | (with_reducible refine Below.drew ?_) | (with_reducible refine Ext.alloc ?_ _) | (with_reducible refine Ext.setCell ?_ (by simp; try omega) _) | (with_reducible refine Ext.trans ?_ (by assumption)) | (with_reducible assumption) | exact Below.refl _ _)); done) | (go_keep; done)))
        (first | (go_at_call 21; refine (toRectS_any a n c1 P Q R S _ h1 (HP.out.ext (Ext.trans HB10.out ?_))).mono ?_; (go_split_ands; assumption); rintro e v1 ⟨g1, ga1, gb1, rfl, bv1, P1⟩; have P1 := Lib.hid P1; obtain ⟨sv1, zv1, cv1, fv1⟩ := bcell bv1; (try simp only [World.size_alloc, World.size_setCell, World.size_drew] at sv1)) | (go_at_call 41; refine (toRect_any _ _ _ _ _).mono ?_; rintro e v2 ⟨rfl, bv2⟩; obtain ⟨sv2, zv2, cv2, fv2⟩ := bcell bv2; (try simp only [World.size_alloc, World.size_setCell, World.size_drew] at sv2)) | (go_at_call 42; refine (HI.out (some ⟨g1, 0, none⟩) n n P Q R S p q r s _ h1 (Nat.le_refl _) (HD.out.ext (Ext.trans HB10.out (by first | (go_split_ands; assumption) | ((repeat (first | (with_reducible exact Below.refl _ _) | (with_reducible refine Ext.drewN ?_ _) | (with_reducible refine Below.drew ?_) | (with_reducible refine Ext.alloc ?_ _) | (with_reducible refine Ext.setCell ?_ (by simp; try omega) _) | (with_reducible refine Ext.trans ?_ (by assumption)) | (with_reducible assumption) | exact Below.refl _ _)); done)))) (by first | exact P1.out | exact P1.out.ext (by assumption))).mono ?_; rintro e v3 ⟨⟨a12, c12, rfl, O12⟩, bv3⟩; have O12 := Lib.hid O12; obtain ⟨sv3, zv3, cv3, fv3⟩ := bcell bv3; (try simp only [World.size_alloc, World.size_setCell, World.size_drew] at sv3)))
      all_goals
        go_split_ands
        have hs3 := bv3.size
        go_wp2_with fail
        go_meet
        refine ⟨a12, c12, by rw [HN.out, HL.out], Lib.hid (by rw [HL.out]; exact O12.out.mono (by omega)), ?_⟩
        first | assumption | ((repeat (first | (with_reducible exact Below.refl _ _) | (with_reducible refine Ext.drewN ?_ _) | (with_reducible refine Below.drew ?_) | (with_reducible refine Ext.alloc ?_ _) | (with_reducible refine Ext.setCell ?_ (by simp; try omega) _) | (with_reducible refine Ext.trans ?_ (by assumption)) | (with_reducible assumption) | exact Below.refl _ _)); done)
    case rest =>
      obtain ⟨a12, c12, rfl, O12, K⟩ := hcut
      rename World => w12
      have R12 := Lib.hid (R10.out.below (K.mono (by omega)))
      have H12 := Lib.hid (H10.out.below K)
      have B12 := Ext.trans B10 K
      have l12 := K.size
      clear R10 H10 K x0 x1 x2 x3 E10
      go_wp2_with fail
      rw [HN.out]
      refine (eqRectS_any a12 a0 l.length c12 c0 (pA l) (pB l) (pC l) (pD l) _ (by have := HN.out; omega) O12.out.rects (R12.out.mono (by omega))).mono ?_
      rintro e w13 ⟨rfl, bw13⟩
      rw [← HN.out]
      have H13 := Lib.hid (H12.out.below bw13)
      have B13 := Ext.trans B12 bw13
      clear bw13 R12 H12 O12
      go_wp2_with fail
      rw [HN.out]
      refine (heldOwn w3.heap.size a4 l.length c4 1 _ (by have := HN.out; omega) (by omega) (by omega) H13.out).mono ?_
      rintro e w14 ⟨rfl, rfl⟩
      rw [← HN.out]
      go_wp2_with fail
      go_ret
      exact ⟨rfl, B13⟩
end Go.Proofs.YtpbijohdnocleaaDoor
