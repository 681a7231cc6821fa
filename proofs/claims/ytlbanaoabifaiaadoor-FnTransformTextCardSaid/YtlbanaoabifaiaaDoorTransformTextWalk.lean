/- The walk of FnTransformText. Conditions: the code's bytes lie in memory; the variables hold what the program's text lays. -/
import Derived.Test.YtlbanaoabifaiaaDoorTxA
import Derived.Test.YtlbanaoabifaiaaDoorPaJ
namespace Go.Proofs.YtlbanaoabifaiaaDoor
open Go.RowKit
set_option linter.unusedVariables false
set_option linter.unusedSimpArgs false
attribute [local go_sem ↓] Go.wp_at_zero Go.wp_at_succ

set_option maxHeartbeats 16000000 in
set_option maxRecDepth 100000 in
theorem walkTT (a : Option Addr) (len cap : Nat) (w : World) (hcap : len ≤ maxLen) (hC : CodeIs w.heap.size w a len) (hP : ParW w) (hM : Mats w) :
    Calls Tryd.prog 3 #[.slice a len cap] w fun e w' => e = .returned (.bool true) ∧ Below w.heap.size w w' := by
  unfold maxLen at hcap
  by_cases hbig : 4096 < len
  · go_enter Tryd.func3, Tryd.ntmps3
    go_wp2_with (go_at_call 6; refine (big_any _ _ _ _).mono ?_; rintro e w' ⟨rfl, rfl⟩)
    go_ret
    exact ⟨rfl, Below.refl _ _⟩
  have hlen : len ≤ 4096 := by omega
  have HP := Lib.hid hP
  clear hP
  go_enter Tryd.func3, Tryd.ntmps3
  go_wp2_with (go_at_call 6; refine (big_any _ _ _ _).mono ?_; rintro e w' ⟨rfl, rfl⟩)
  refine (drawFT_any a len cap _ hlen hC).mono ?_
  rintro e w1 ⟨o, x, y, ho, hx, hy, rfl, bw1⟩
  have hs1 := bw1.size
  obtain ⟨n, rfl⟩ : ∃ n : Nat, o = (n : Int) := ⟨o.toNat, by omega⟩
  have hn8 : n < 8 := by omega
  cases hv : vldB n x y with
  | false =>
    go_wp2_with (go_at_call 8; refine (specValid_any _ _ _ _).mono ?_; rintro e w2 ⟨rfl, bw2⟩; rw [hv])
    go_ret
    exact ⟨rfl, by (repeat (first | (with_reducible exact Below.refl _ _) | (with_reducible refine Ext.drewN ?_ _) | (with_reducible refine Below.drew ?_) | (with_reducible refine Ext.alloc ?_ _) | (with_reducible refine Ext.setCell ?_ (by simp; try omega) _) | (with_reducible refine Ext.trans ?_ (by assumption)) | (with_reducible assumption) | exact Below.refl _ _))⟩
  | true =>
    obtain ⟨⟨i1, i2⟩, ⟨i3, i4⟩, i5, i6⟩ := vldB_t hv
    have HV := Lib.hid hv
    have P1 := Lib.hid (HP.out.below bw1)
    go_upto_region 7 with (first | (go_at_call 8; refine (specValid_any _ _ _ _).mono ?_; rintro e w2 ⟨rfl, bw2⟩; rw [hv]; have t2_0 : w2.cell? ⟨w1.heap.size, 0, none⟩ = some (.int .i64 n) := keepC bw2 (by simp [go_sem]); have t2_1 : w2.cell? ⟨w1.heap.size, 1, none⟩ = some (.int .i64 x) := keepC bw2 (by simp [go_sem]); have t2_2 : w2.cell? ⟨w1.heap.size, 2, none⟩ = some (.int .i64 y) := keepC bw2 (by simp [go_sem]); have P2 := Lib.hid ((P1.out.below (Ext.alloc (Below.refl _ _) _)).below bw2); have B2 : Below w.heap.size w w2 := (by (repeat (first | (with_reducible exact Below.refl _ _) | (with_reducible refine Ext.drewN ?_ _) | (with_reducible refine Below.drew ?_) | (with_reducible refine Ext.alloc ?_ _) | (with_reducible refine Ext.setCell ?_ (by simp; try omega) _) | (with_reducible refine Ext.trans ?_ (by assumption)) | (with_reducible assumption) | exact Below.refl _ _)))) | (go_at_call 10; refine (implFormat_any _ _ _ _ P2.out.tab).mono ?_; rintro e w3 ⟨rfl, bw3⟩; have t3_0 := keepC bw3 t2_0; have t3_1 := keepC bw3 t2_1; have t3_2 := keepC bw3 t2_2; have P3 := Lib.hid (P2.out.below bw3); have B3 : Below w.heap.size w w3 := (by (repeat (first | (with_reducible exact Below.refl _ _) | (with_reducible refine Ext.drewN ?_ _) | (with_reducible refine Below.drew ?_) | (with_reducible refine Ext.alloc ?_ _) | (with_reducible refine Ext.setCell ?_ (by simp; try omega) _) | (with_reducible refine Ext.trans ?_ (by assumption)) | (with_reducible assumption) | exact Below.refl _ _)))) | (go_at_call 9; refine (implParse_yes _ _ _ _ P3.out HV.out).mono ?_; rintro e w4 ⟨he, bw4⟩; unfold yesT at he; subst he; have t4_0 := keepC bw4 t3_0; have t4_1 := keepC bw4 t3_1; have t4_2 := keepC bw4 t3_2; have P4 := Lib.hid (P3.out.below bw4); have B4 : Below w.heap.size w w4 := (by (repeat (first | (with_reducible exact Below.refl _ _) | (with_reducible refine Ext.drewN ?_ _) | (with_reducible refine Below.drew ?_) | (with_reducible refine Ext.alloc ?_ _) | (with_reducible refine Ext.setCell ?_ (by simp; try omega) _) | (with_reducible refine Ext.trans ?_ (by assumption)) | (with_reducible assumption) | exact Below.refl _ _)))))
    clear bw1 hbig HP P1 P2 P3 B2 B3 t2_0 t2_1 t2_2 t3_0 t3_1 t3_2 bw2 bw3
    go_cut [6] (fun s6 wx => ∃ g6 : Nat, s6 = .slice (some ⟨g6, 0, none⟩) 3 3 ∧ PtsIs wx.heap.size wx (some ⟨g6, 0, none⟩) 3 pX pY ∧ wx.cell? ⟨w1.heap.size, 0, none⟩ = some (.int .i64 n) ∧ wx.cell? ⟨w1.heap.size, 1, none⟩ = some (.int .i64 x) ∧ wx.cell? ⟨w1.heap.size, 2, none⟩ = some (.int .i64 y) ∧ wx.cell? ⟨w4.heap.size, 0, none⟩ = some (.int .i64 n) ∧ wx.cell? ⟨w4.heap.size, 1, none⟩ = some (.int .i64 x) ∧ wx.cell? ⟨w4.heap.size, 2, none⟩ = some (.int .i64 y) ∧ Below w.heap.size w wx)
    case first =>
      go_wp2_with fail
      go_meet
      refine ⟨_, rfl, pts_from (by simp [go_sem]) (by simp [go_sem]) (by simp [go_sem]) (by simp [go_sem]) (by simp [go_sem]) (by simp [go_sem]), keepA (keepA t4_0 _) _, keepA (keepA t4_1 _) _, keepA (keepA t4_2 _) _, by simp [go_sem], by simp [go_sem], by simp [go_sem], by (repeat (first | (with_reducible exact Below.refl _ _) | (with_reducible refine Ext.drewN ?_ _) | (with_reducible refine Below.drew ?_) | (with_reducible refine Ext.alloc ?_ _) | (with_reducible refine Ext.setCell ?_ (by simp; try omega) _) | (with_reducible refine Ext.trans ?_ (by assumption)) | (with_reducible assumption) | exact Below.refl _ _))⟩
    case rest =>
      rename World => W7
      obtain ⟨g6, rfl, hF, t0, t1, t2, c4_0, c4_1, c4_2, bc⟩ := hcut
      clear t4_0 t4_1 t4_2 P4 B4 bw4
      have HF := Lib.hid hF
      clear hF
      obtain ⟨i0, hi, hz0, hz1, hz2⟩ := info_parts A.infoP
      go_wp2_with fail
      go_loopw [7, 8] (fun v i wr => ∃ k : Nat, k ≤ 3 ∧ i = .int .i64 k ∧ Below W7.heap.size W7 wr ∧ (∃ g c, v = .slice (some ⟨g, 0, none⟩) k c) ∧ wr.ownsRow W7.heap.size 32 2 v k (imL n x y k) ∧ ∀ j, j < k → onB (imU n x j) (imV n y j) = true) (fun _ i _ => 3 - (intOf i).toNat)
      case atStart =>
        refine ⟨0, by omega, rfl, by (repeat (first | (with_reducible exact Below.refl _ _) | (with_reducible refine Ext.drewN ?_ _) | (with_reducible refine Below.drew ?_) | (with_reducible refine Ext.alloc ?_ _) | (with_reducible refine Ext.setCell ?_ (by simp; try omega) _) | (with_reducible refine Ext.trans ?_ (by assumption)) | (with_reducible assumption) | exact Below.refl _ _)), ⟨_, _, rfl⟩, ?_, fun j hj => by omega⟩
        exact World.ownsRow_made W7 #[] 0 (Nat.le_refl _) (by unfold maxLen; decide) rfl
      case round =>
        obtain ⟨k, hk, rfl, hW, ⟨g, c, rfl⟩, hown, hon⟩ := hrel
        have HON := Lib.hid hon
        clear hon
        have T0 := keepC hW t0
        have T1 := keepC hW t1
        have T2 := keepC hW t2
        have U0 := keepC hW c4_0
        have U1 := keepC hW c4_1
        have U2 := keepC hW c4_2
        have lw1 : w1.heap.size < wr.heap.size := World.block_lt_of_cell? wr ⟨w1.heap.size, 0, none⟩ T0
        have lw4 : w4.heap.size < wr.heap.size := World.block_lt_of_cell? wr ⟨w4.heap.size, 0, none⟩ U0
        have BW : Below w.heap.size w wr := bc.trans (hW.mono bc.size)
        by_cases hlt : k < 3
        · obtain ⟨b1, o1, hbo, hb1, cx, cy⟩ := (HF.out.ext hW) k hlt
          obtain ⟨rfl, rfl⟩ : g6 = b1 ∧ 0 = o1 := by simpa using hbo
          rw [Nat.zero_add] at cx cy
          clear hbo
          have q1 : (k : Int) < 3 := by omega
          have q0 : (0 : Int) ≤ (k : Int) := by omega
          go_wp2_with fail
          go_cut [9, 10] (fun s9 s10 wx => ∃ gq : Nat, s9 = .pointer (some ⟨gq, 0, none⟩) ∧ s10 = .bool true ∧ wr.heap.size ≤ gq ∧ gq < wx.heap.size ∧ wx.cell? ⟨gq, 0, none⟩ = some (.int .i64 (imU n x k)) ∧ wx.cell? ⟨gq, 1, none⟩ = some (.int .i64 (imV n y k)) ∧ Below wr.heap.size wr wx)
          case first =>
            clear hown
            go_region_held3 (fun w' => wr.heap.size ≤ w'.heap.size ∧ Below wr.heap.size wr w' ∧ w'.cell? ⟨w1.heap.size, 0, none⟩ = some (.int .i64 n) ∧ w'.cell? ⟨w1.heap.size, 1, none⟩ = some (.int .i64 x) ∧ w'.cell? ⟨w1.heap.size, 2, none⟩ = some (.int .i64 y) ∧ w'.cell? ⟨g6, k * 2, none⟩ = some (.int .i64 (pX k)) ∧ w'.cell? ⟨g6, k * 2 + 1, none⟩ = some (.int .i64 (pY k)))
              (first | ((try dsimp only); go_split_ands; (repeat' (with_reducible refine And.intro ?_ ?_)) <;> first | ((repeat (with_reducible refine keepS ?_ (by simp; try omega) _)); (first | (with_reducible assumption) | (with_reducible exact keepC (by assumption) (by assumption)) | (with_reducible exact keepA (by assumption) _) | (with_reducible exact keepR (by assumption) (by omega) _))) | ((try simp only [World.size_alloc, World.size_setCell, World.size_drew]); omega) | (refine Mats.below hM ?_ hM.size; (repeat (first | (with_reducible exact Below.refl _ _) | (with_reducible refine Ext.drewN ?_ _) | (with_reducible refine Below.drew ?_) | (with_reducible refine Ext.alloc ?_ _) | (with_reducible refine Ext.setCell ?_ (by simp; try omega) _) | (with_reducible refine Ext.trans ?_ (by assumption)) | (with_reducible assumption) | exact Below.refl _ _)); done) | ((repeat (first | (with_reducible exact Below.refl _ _) | (with_reducible refine Ext.drewN ?_ _) | (with_reducible refine Below.drew ?_) | (with_reducible refine Ext.alloc ?_ _) | (with_reducible refine Ext.setCell ?_ (by simp; try omega) _) | (with_reducible refine Ext.trans ?_ (by assumption)) | (with_reducible assumption) | exact Below.refl _ _)); done) | (go_keep; done)))
              (first | (go_at_call 11; refine (implMP_yes n x y (pX k) (pY k) _ (hM.below ?_ hM.size) HV.out (pOn k)).mono ?_; (go_split_ands; refine Ext.trans BW ?_; assumption); rintro e v1 ⟨rfl, bv1⟩; obtain ⟨sv1, zv1, cv1, fv1⟩ := bcell bv1; (try simp only [World.size_alloc, World.size_setCell, World.size_drew] at sv1)))
            all_goals
              go_wp2_with fail
              go_meet
              refine ⟨_, rfl, rfl, ?_, ?_, ?_, ?_, ?_⟩
              · first | exact Nat.le_refl _ | omega | ((try simp only [World.size_alloc, World.size_setCell, World.size_drew]); omega)
              · (try simp only [World.size_alloc, World.size_setCell, World.size_drew]); omega
              · first | (simp [go_sem, imU]; done) | (refine (set2_0 (u0 := .int .i64 0) (u1 := .int .i64 0) ?_ ?_) <;> ((repeat (with_reducible refine keepC (by assumption) ?_)); simp [go_sem]))
              · first | (simp [go_sem, imV]; done) | (refine (set2_1 (u0 := .int .i64 0) (u1 := .int .i64 0) ?_ ?_) <;> ((repeat (with_reducible refine keepC (by assumption) ?_)); simp [go_sem]))
              · (repeat (first | (with_reducible exact Below.refl _ _) | (with_reducible refine Ext.drewN ?_ _) | (with_reducible refine Below.drew ?_) | (with_reducible refine Ext.alloc ?_ _) | (with_reducible refine Ext.setCell ?_ (by simp; try omega) _) | (with_reducible refine Ext.trans ?_ (by assumption)) | (with_reducible assumption) | exact Below.refl _ _))
          case rest =>
            obtain ⟨gq, rfl, rfl, hq1, hq2, e0, e1, bq⟩ := hcut
            have hown1 := own_below hown bq
            have S0 := keepC bq T0
            have S1 := keepC bq T1
            have S2 := keepC bq T2
            have R0 := keepC bq U0
            have R1 := keepC bq U1
            have R2 := keepC bq U2
            have BC : Below w.heap.size w wc := Ext.trans BW bq
            have heq := eqTrT n x y
            have hne := heq
            clear hne T0 T1 T2 U0 U1 U2 t0 t1 t2 c4_0 c4_1 c4_2 cx cy hown
            rcases out_cases (imU n x k) (imV n y k) with h | ⟨h, h'⟩ | ⟨h, h', h''⟩ | ⟨h, h', h'', h3⟩ | ⟨h, h', h'', h3⟩
            · go_wp2_with fail
              go_ret
              exact ⟨rfl, BC⟩
            · go_wp2_with fail
              go_ret
              exact ⟨rfl, BC⟩
            · go_wp2_with fail
              go_ret
              exact ⟨rfl, BC⟩
            · go_wp2_with fail
              go_ret
              exact ⟨rfl, BC⟩
            · have hok : onB (imU n x k) (imV n y k) = true := by unfold onB; rw [inB_mk (by omega) (by omega), inB_mk (by omega) (by omega)]; rfl
              have HOK := Lib.hid hok
              clear hok
              go_wp2_with (at_builtin; refine wpList_append_own _ rfl _ _ 33 rfl W7.heap.size 32 i0 (.agg #[.int .i64 0, .int .i64 0]) 2 16 Tryd.underlying33 hi hz0 hz1 hz2 rfl (by decide) _ _ _ rfl (hown1.alloc _) ⟨wc.heap.size, 0, none⟩ 1 1 [.int .i64 (imU n x k), .int .i64 (imV n y k)] rfl rfl ?c1 ?c2 ?c3 ?c4 ?c5 ?_)
              case c2 => exact ⟨rfl, rfl⟩
              case c3 => unfold maxLen; omega
              case c4 => omega
              case c5 => have := hW.size; omega
              intro v' wn hown2 hgrow _
              have BN : Below W7.heap.size W7 wn := ((hW.trans (bq.mono hW.size)).alloc (by have := hW.size; omega) _).grown hgrow (by have := hW.size; simp; omega) (fun j hj => (hown1.lt j hj).1)
              obtain ⟨g', c', rfl, hown3⟩ := own_pt hown2
              clear hown2 hgrow hown1
              go_wp2_with fail
              go_roundw
              case rel => exact ⟨k + 1, by omega, by go_num, BN, ⟨g', c', rfl⟩, hown3, fun j hj => by
                by_cases e : j = k
                · subst e; exact HOK.out
                · exact HON.out j (by omega)⟩
              case measure => simp [intOf]; omega
        · obtain rfl : k = 3 := by omega
          obtain ⟨z0, z1, z2, z3⟩ := ft_im n x y hn8 HON.out
          have heq := eqTrT n x y
          have HZ := Lib.hid (And.intro z0 (And.intro z1 (And.intro z2 z3)))
          clear z0 z1 z2 z3
          have HO := Lib.hid (pts_own hown)
          clear hown
          go_wp2_with (go_at_call 12; refine (implFT_any _ _ 3 3 3 c pX pY (imU n x) (imV n y) _ (hM.below BW hM.size) (by omega) (by omega) (HF.out.ext hW) HO.out).mono ?_; rintro e w9 ⟨he, b9⟩; rw [HZ.out.1, HZ.out.2.1, HZ.out.2.2.1, HZ.out.2.2.2] at he; subst he; have Z0 := keepC b9 T0; have Z1 := keepC b9 T1; have Z2 := keepC b9 T2; have Y0 := keepC b9 U0; have Y1 := keepC b9 U1; have Y2 := keepC b9 U2; have l49 : w4.heap.size < w9.heap.size := World.block_lt_of_cell? w9 ⟨w4.heap.size, 0, none⟩ Y0; have l19 : w1.heap.size < w9.heap.size := World.block_lt_of_cell? w9 ⟨w1.heap.size, 0, none⟩ Z0; clear T0 T1 T2 U0 U1 U2 t0 t1 t2 c4_0 c4_1 c4_2)
          go_ret
          exact ⟨rfl, by (repeat (first | (with_reducible exact Below.refl _ _) | (with_reducible refine Ext.drewN ?_ _) | (with_reducible refine Below.drew ?_) | (with_reducible refine Ext.alloc ?_ _) | (with_reducible refine Ext.setCell ?_ (by simp; try omega) _) | (with_reducible refine Ext.trans ?_ (by assumption)) | (with_reducible assumption) | exact Below.refl _ _))⟩
end Go.Proofs.YtlbanaoabifaiaaDoor
