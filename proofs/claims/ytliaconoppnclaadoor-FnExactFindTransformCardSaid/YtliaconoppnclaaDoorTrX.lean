/- FindTransform: the model's. Condition: the points' cells are in memory. -/
import Derived.Test.YtliaconoppnclaaDoorTrW
import Derived.Deep.QuietTactic
import Derived.BigQuiet
namespace Go.Proofs.YtliaconoppnclaaDoor
open Go.RowKit
set_option linter.unusedVariables false
set_option linter.unusedSimpArgs false
attribute [local go_sem ↓] Go.wp_at_zero Go.wp_at_succ

set_option maxHeartbeats 8000000 in
theorem specFT_any (a b : Option Addr) (n m c1 c2 : Nat) (X Y U V : Nat → Int) (w : World) (hn : n ≤ 1048576) (hm : m ≤ 1048576) (hP : PtsIs w.heap.size w a n X Y) (hQ : PtsIs w.heap.size w b m U V) :
    Calls Tryd.prog 37 #[.slice a n c1, .slice b m c2] w (Found X Y U V n m w) := by
  by_cases hn0 : n = 0
  · subst hn0
    go_enter Tryd.func37, Tryd.ntmps37
    go_wp2_with fail
    refine bodyPost_ret (v := .tuple #[.agg #[.int .i64 0, .int .i64 0, .int .i64 0], .bool false]) (by simp [*, results, Tryd.results37, go_sem]) rfl (found_no (f_no_pre (fpre_f1 (by omega))) ?_)
    (repeat (first | (with_reducible exact Below.refl _ _) | (with_reducible refine Ext.drewN ?_ _) | (with_reducible refine Below.drew ?_) | (with_reducible refine Ext.alloc ?_ _) | (with_reducible refine Ext.setCell ?_ (by simp; try omega) _) | (with_reducible refine Ext.trans ?_ (by assumption)) | (with_reducible assumption) | exact Below.refl _ _))
  have p0 : ((n : Int) == 0) = false := by simp; omega
  by_cases hn8 : 8 < n
  · have p1 : (8 : Int) < (n : Int) := by omega
    go_enter Tryd.func37, Tryd.ntmps37
    go_wp2_with fail
    refine bodyPost_ret (v := .tuple #[.agg #[.int .i64 0, .int .i64 0, .int .i64 0], .bool false]) (by simp [*, results, Tryd.results37, go_sem]) rfl (found_no (f_no_pre (fpre_f2 (by omega))) ?_)
    (repeat (first | (with_reducible exact Below.refl _ _) | (with_reducible refine Ext.drewN ?_ _) | (with_reducible refine Below.drew ?_) | (with_reducible refine Ext.alloc ?_ _) | (with_reducible refine Ext.setCell ?_ (by simp; try omega) _) | (with_reducible refine Ext.trans ?_ (by assumption)) | (with_reducible assumption) | exact Below.refl _ _))
  have p1 : ¬ (8 : Int) < (n : Int) := by omega
  by_cases hmn : m = n
  case neg =>
    have p2 : ((m : Int) == (n : Int)) = false := by simp; omega
    have p3 : ((m : Int) != (n : Int)) = true := by simp; omega
    go_enter Tryd.func37, Tryd.ntmps37
    go_wp2_with fail
    refine bodyPost_ret (v := .tuple #[.agg #[.int .i64 0, .int .i64 0, .int .i64 0], .bool false]) (by simp [*, results, Tryd.results37, go_sem]) rfl (found_no (f_no_pre (fpre_f3 hmn)) ?_)
    (repeat (first | (with_reducible exact Below.refl _ _) | (with_reducible refine Ext.drewN ?_ _) | (with_reducible refine Below.drew ?_) | (with_reducible refine Ext.alloc ?_ _) | (with_reducible refine Ext.setCell ?_ (by simp; try omega) _) | (with_reducible refine Ext.trans ?_ (by assumption)) | (with_reducible assumption) | exact Below.refl _ _))
  subst hmn
  have HP := Lib.hid hP
  have HQ := Lib.hid hQ
  clear hP hQ
  have q1 : (0 : Int) < (m : Int) := by omega
  have q1n : 0 < m := by omega
  go_enter Tryd.func37, Tryd.ntmps37
  go_wp2_with fail
  go_loopw [6] (fun s5 wr => ∃ i : Nat, i ≤ m ∧ s5 = .int .i64 i ∧ w.heap.size < wr.heap.size ∧ Below w.heap.size w wr ∧ wr.cell? ⟨w.heap.size, 0, none⟩ = some (.int .i64 0) ∧ wr.cell? ⟨w.heap.size, 1, none⟩ = some (.int .i64 0) ∧ wr.cell? ⟨w.heap.size, 2, none⟩ = some (.int .i64 0) ∧ wr.frozen? ⟨w.heap.size, 0, none⟩ = false ∧ wr.frozen? ⟨w.heap.size, 1, none⟩ = false ∧ wr.frozen? ⟨w.heap.size, 2, none⟩ = false ∧ (∀ j, j < i → onB (X j) (Y j) = true) ∧ (∀ j, j < i → onB (U j) (V j) = true)) (fun s5 _ => m - (intOf s5).toNat)
  case atStart => exact ⟨0, by omega, rfl, by simp, by (repeat (first | (with_reducible exact Below.refl _ _) | (with_reducible refine Ext.drewN ?_ _) | (with_reducible refine Below.drew ?_) | (with_reducible refine Ext.alloc ?_ _) | (with_reducible refine Ext.setCell ?_ (by simp; try omega) _) | (with_reducible refine Ext.trans ?_ (by assumption)) | (with_reducible assumption) | exact Below.refl _ _)), by simp, by simp, by simp, by simp, by simp, by simp, fun k hk => absurd hk (by omega), fun k hk => absurd hk (by omega)⟩
  case round =>
    obtain ⟨i, hi, rfl, hsz, hW, z0, z1, z2, r0, r1, r2, hX, hU⟩ := hrel
    have HX := Lib.hid hX
    have HU := Lib.hid hU
    clear hX hU
    by_cases hlt : i < m
    · obtain ⟨b1, o1, rfl, hb1, cx, cy⟩ := HP.out.below hW i hlt
      obtain ⟨b2, o2, rfl, hb2, dx, dy⟩ := HQ.out.below hW i hlt
      have t1 : (i : Int) < (m : Int) := by omega
      have t0 : (0 : Int) ≤ (i : Int) := by omega
      go_wp2_with fail
      refine (l01OnChip_any _ _ _).mono ?_
      rintro e w2 ⟨rfl, bw2⟩
      have s2 := bw2.size
      have Z0 := keepC bw2 z0
      have Z1 := keepC bw2 z1
      have Z2 := keepC bw2 z2
      have R0 : w2.frozen? ⟨w.heap.size, 0, none⟩ = false := (bw2.frozen hsz).trans r0
      have R1 : w2.frozen? ⟨w.heap.size, 1, none⟩ = false := (bw2.frozen hsz).trans r1
      have R2 : w2.frozen? ⟨w.heap.size, 2, none⟩ = false := (bw2.frozen hsz).trans r2
      have Dx := keepC bw2 dx
      have Dy := keepC bw2 dy
      have B2 : Below w.heap.size w w2 := Below.trans hW (bw2.mono (by omega))
      have l2 : w.heap.size < w2.heap.size := by omega
      clear bw2
      cases ho : onB (X i) (Y i) with
      | false =>
        go_wp2_with fail
        refine bodyPost_ret (v := .tuple #[.agg #[.int .i64 0, .int .i64 0, .int .i64 0], .bool false]) (by simp [*, results, Tryd.results37, go_sem]) rfl (found_no (f_no_pre (fpre_f4 (allOn_f hlt ho))) ?_)
        (repeat (first | (with_reducible exact Below.refl _ _) | (with_reducible refine Ext.drewN ?_ _) | (with_reducible refine Below.drew ?_) | (with_reducible refine Ext.alloc ?_ _) | (with_reducible refine Ext.setCell ?_ (by simp; try omega) _) | (with_reducible refine Ext.trans ?_ (by assumption)) | (with_reducible assumption) | exact Below.refl _ _))
      | true =>
        have HO := Lib.hid ho
        clear ho
        go_wp2_with fail
        refine (l01OnChip_any _ _ _).mono ?_
        rintro e w3 ⟨rfl, bw3⟩
        have s3 := bw3.size
        have Z0 := keepC bw3 Z0
        have Z1 := keepC bw3 Z1
        have Z2 := keepC bw3 Z2
        have R0 : w3.frozen? ⟨w.heap.size, 0, none⟩ = false := (bw3.frozen l2).trans R0
        have R1 : w3.frozen? ⟨w.heap.size, 1, none⟩ = false := (bw3.frozen l2).trans R1
        have R2 : w3.frozen? ⟨w.heap.size, 2, none⟩ = false := (bw3.frozen l2).trans R2
        have B3 : Below w.heap.size w w3 := Below.trans B2 (bw3.mono (by omega))
        have l3 : w.heap.size < w3.heap.size := by omega
        clear bw3
        cases hu : onB (U i) (V i) with
        | false =>
          go_wp2_with fail
          refine bodyPost_ret (v := .tuple #[.agg #[.int .i64 0, .int .i64 0, .int .i64 0], .bool false]) (by simp [*, results, Tryd.results37, go_sem]) rfl (found_no (f_no_pre (fpre_f5 (allOn_f hlt hu))) ?_)
          (repeat (first | (with_reducible exact Below.refl _ _) | (with_reducible refine Ext.drewN ?_ _) | (with_reducible refine Below.drew ?_) | (with_reducible refine Ext.alloc ?_ _) | (with_reducible refine Ext.setCell ?_ (by simp; try omega) _) | (with_reducible refine Ext.trans ?_ (by assumption)) | (with_reducible assumption) | exact Below.refl _ _))
        | true =>
          have HV := Lib.hid hu
          clear hu
          go_wp2_with fail
          go_roundw
          case rel => exact ⟨i + 1, by omega, by go_num, l3, B3, Z0, Z1, Z2, R0, R1, R2, fun j hj => by
            by_cases e : j = i
            · subst e; exact HO.out
            · exact HX.out j (by omega), fun j hj => by
            by_cases e : j = i
            · subst e; exact HV.out
            · exact HU.out j (by omega)⟩
          case measure => simp [intOf]; omega
    · have t1 : ¬ (i : Int) < (m : Int) := by omega
      obtain rfl : i = m := by omega
      have hpre : fpre X Y U V i i = true := fpre_t (by omega) (by omega) (allOn_t HX.out) (allOn_t HU.out)
      have HPRE := Lib.hid hpre
      clear hpre
      have hon : ∀ j, j < i → (-40 ≤ X j ∧ X j ≤ 40) ∧ (-40 ≤ Y j ∧ Y j ≤ 40) := fun j hj => onB_t (HX.out j hj)
      obtain ⟨⟨x1, x2⟩, x3, x4⟩ := hon 0 (by omega)
      obtain ⟨⟨u1, u2⟩, u3, u4⟩ := onB_t (HU.out 0 (by omega))
      have HON := Lib.hid hon
      clear hon
      obtain ⟨wo, rfl⟩ : ∃ wo : World, wo = wr := ⟨_, rfl⟩
      go_wp2_with fail
      go_loopw [7] (fun s5 wr => ∃ k : Nat, k ≤ 8 ∧ s5 = .int .i64 k ∧ w.heap.size < wr.heap.size ∧ Below w.heap.size w wr ∧ wr.cell? ⟨w.heap.size, 0, none⟩ = some (.int .i64 0) ∧ wr.cell? ⟨w.heap.size, 1, none⟩ = some (.int .i64 0) ∧ wr.cell? ⟨w.heap.size, 2, none⟩ = some (.int .i64 0) ∧ wr.frozen? ⟨w.heap.size, 0, none⟩ = false ∧ wr.frozen? ⟨w.heap.size, 1, none⟩ = false ∧ wr.frozen? ⟨w.heap.size, 2, none⟩ = false ∧ ∀ j, j < k → fit X Y U V i j = false) (fun s5 _ => 8 - (intOf s5).toNat)
      case atStart => exact ⟨0, by omega, rfl, hsz, hW, z0, z1, z2, r0, r1, r2, fun k hk => absurd hk (by omega)⟩
      case round =>
        clear z0 z1 z2 r0 r1 r2 hsz hW
        obtain ⟨k, hk, rfl, hsz, hW, z0, z1, z2, r0, r1, r2, hfit⟩ := hrel
        have HF := Lib.hid hfit
        clear hfit
        by_cases hk8 : k < 8
        · obtain ⟨b1, o1, rfl, hb1, cx, cy⟩ := HP.out.below hW 0 (by omega)
          obtain ⟨b2, o2, rfl, hb2, dx, dy⟩ := HQ.out.below hW 0 (by omega)
          simp only [Nat.zero_mul, Nat.add_zero] at cx cy dx dy
          have q2 : (k : Int) < 8 := by omega
          have q3 : (0 : Int) ≤ (k : Int) := by omega
          obtain ⟨⟨t1, t2⟩, t3, t4⟩ := t_bd k (X 0) (Y 0) 40 x1 x2 x3 x4
          have hvl : vldB k (U 0 - tX k (X 0) (Y 0)) (V 0 - tY k (X 0) (Y 0)) = true := vldB_mk (by omega) (by omega) (by omega) (by omega) (by omega) (by omega)
          go_wp2_with fail
          refine (turn_any k (X 0) (Y 0) _ (by omega) (by omega) (by omega) (by omega) (by omega) (by omega)).mono ?_
          rintro e w3 ⟨rfl, bw3⟩
          have Z0 := keepC bw3 z0
          have Z1 := keepC bw3 z1
          have Z2 := keepC bw3 z2
          have R0 : w3.frozen? ⟨w.heap.size, 0, none⟩ = false := (bw3.frozen hsz).trans r0
          have R1 : w3.frozen? ⟨w.heap.size, 1, none⟩ = false := (bw3.frozen hsz).trans r1
          have R2 : w3.frozen? ⟨w.heap.size, 2, none⟩ = false := (bw3.frozen hsz).trans r2
          have Dx := keepC bw3 dx
          have Dy := keepC bw3 dy
          have s3 := bw3.size
          have B3 : Below w.heap.size w w3 := Below.trans hW (bw3.mono (by omega))
          have l3 : w.heap.size < w3.heap.size := by omega
          clear bw3 z0 z1 z2 r0 r1 r2 dx dy cx cy
          go_upto_region 12 with fail
          have Dx' := keepA Dx (.cells #[.int .i64 (tX k (X 0) (Y 0)), .int .i64 (tY k (X 0) (Y 0))] 36)
          have Dy' := keepA Dy (.cells #[.int .i64 (tX k (X 0) (Y 0)), .int .i64 (tY k (X 0) (Y 0))] 36)
          go_region_held3 (fun w' => w'.cell? ⟨b2, o2, none⟩ = some (.int .i64 (U 0)) ∧ w'.cell? ⟨b2, o2 + 1, none⟩ = some (.int .i64 (V 0)) ∧ w'.cell? ⟨w3.heap.size, 0, none⟩ = some (.int .i64 (tX k (X 0) (Y 0))) ∧ w'.cell? ⟨w3.heap.size, 1, none⟩ = some (.int .i64 (tY k (X 0) (Y 0))))
            (first | ((try dsimp only); go_split_ands; (repeat' (with_reducible refine And.intro ?_ ?_)) <;> first | ((repeat (with_reducible refine keepS ?_ (by simp; try omega) _)); (first | (with_reducible assumption) | (with_reducible exact keepA (by assumption) _) | (with_reducible exact keepR (by assumption) (by omega) _))) | (go_keep; done)))
            (fail)
          go_wp2_with fail
          have BB : Below w.heap.size w (((w3.alloc (.cells #[.int .i64 (tX k (X 0) (Y 0)), .int .i64 (tY k (X 0) (Y 0))] 36)).alloc (.cells #[.int .i64 k, .int .i64 (U 0 - tX k (X 0) (Y 0)), .int .i64 (V 0 - tY k (X 0) (Y 0))] 25)).drew) := by (repeat (first | (with_reducible exact Below.refl _ _) | (with_reducible refine Ext.drewN ?_ _) | (with_reducible refine Below.drew ?_) | (with_reducible refine Ext.alloc ?_ _) | (with_reducible refine Ext.setCell ?_ (by simp; try omega) _) | (with_reducible refine Ext.trans ?_ (by assumption)) | (with_reducible assumption) | exact Below.refl _ _))
          refine (specValid_any _ _ _ _).mono ?_
          rintro e w4 ⟨rfl, bw4⟩
          have s4 := bw4.size
          simp only [World.size_alloc, World.size_drew] at s4
          have A0 : w4.cell? ⟨w.heap.size, 0, none⟩ = some (.int .i64 0) := keepC bw4 (show (((w3.alloc (.cells #[.int .i64 (tX k (X 0) (Y 0)), .int .i64 (tY k (X 0) (Y 0))] 36)).alloc (.cells #[.int .i64 k, .int .i64 (U 0 - tX k (X 0) (Y 0)), .int .i64 (V 0 - tY k (X 0) (Y 0))] 25)).drew).cell? ⟨w.heap.size, 0, none⟩ = _ from keepA (keepA Z0 _) _)
          have A1 : w4.cell? ⟨w.heap.size, 1, none⟩ = some (.int .i64 0) := keepC bw4 (show (((w3.alloc (.cells #[.int .i64 (tX k (X 0) (Y 0)), .int .i64 (tY k (X 0) (Y 0))] 36)).alloc (.cells #[.int .i64 k, .int .i64 (U 0 - tX k (X 0) (Y 0)), .int .i64 (V 0 - tY k (X 0) (Y 0))] 25)).drew).cell? ⟨w.heap.size, 1, none⟩ = _ from keepA (keepA Z1 _) _)
          have A2 : w4.cell? ⟨w.heap.size, 2, none⟩ = some (.int .i64 0) := keepC bw4 (show (((w3.alloc (.cells #[.int .i64 (tX k (X 0) (Y 0)), .int .i64 (tY k (X 0) (Y 0))] 36)).alloc (.cells #[.int .i64 k, .int .i64 (U 0 - tX k (X 0) (Y 0)), .int .i64 (V 0 - tY k (X 0) (Y 0))] 25)).drew).cell? ⟨w.heap.size, 2, none⟩ = _ from keepA (keepA Z2 _) _)
          have F0 : w4.frozen? ⟨w.heap.size, 0, none⟩ = false := (bw4.frozen (by simp; omega)).trans (show (((w3.alloc (.cells #[.int .i64 (tX k (X 0) (Y 0)), .int .i64 (tY k (X 0) (Y 0))] 36)).alloc (.cells #[.int .i64 k, .int .i64 (U 0 - tX k (X 0) (Y 0)), .int .i64 (V 0 - tY k (X 0) (Y 0))] 25)).drew).frozen? ⟨w.heap.size, 0, none⟩ = false by simp [R0, go_sem, l3])
          have F1 : w4.frozen? ⟨w.heap.size, 1, none⟩ = false := (bw4.frozen (by simp; omega)).trans (show (((w3.alloc (.cells #[.int .i64 (tX k (X 0) (Y 0)), .int .i64 (tY k (X 0) (Y 0))] 36)).alloc (.cells #[.int .i64 k, .int .i64 (U 0 - tX k (X 0) (Y 0)), .int .i64 (V 0 - tY k (X 0) (Y 0))] 25)).drew).frozen? ⟨w.heap.size, 1, none⟩ = false by simp [R1, go_sem, l3])
          have F2 : w4.frozen? ⟨w.heap.size, 2, none⟩ = false := (bw4.frozen (by simp; omega)).trans (show (((w3.alloc (.cells #[.int .i64 (tX k (X 0) (Y 0)), .int .i64 (tY k (X 0) (Y 0))] 36)).alloc (.cells #[.int .i64 k, .int .i64 (U 0 - tX k (X 0) (Y 0)), .int .i64 (V 0 - tY k (X 0) (Y 0))] 25)).drew).frozen? ⟨w.heap.size, 2, none⟩ = false by simp [R2, go_sem, l3])
          have G0 : w4.cell? ⟨w3.heap.size + 1, 0, none⟩ = some (.int .i64 (k)) := keepC bw4 (show (((w3.alloc (.cells #[.int .i64 (tX k (X 0) (Y 0)), .int .i64 (tY k (X 0) (Y 0))] 36)).alloc (.cells #[.int .i64 k, .int .i64 (U 0 - tX k (X 0) (Y 0)), .int .i64 (V 0 - tY k (X 0) (Y 0))] 25)).drew).cell? ⟨w3.heap.size + 1, 0, none⟩ = _ by simp [go_sem])
          have G1 : w4.cell? ⟨w3.heap.size + 1, 1, none⟩ = some (.int .i64 (U 0 - tX k (X 0) (Y 0))) := keepC bw4 (show (((w3.alloc (.cells #[.int .i64 (tX k (X 0) (Y 0)), .int .i64 (tY k (X 0) (Y 0))] 36)).alloc (.cells #[.int .i64 k, .int .i64 (U 0 - tX k (X 0) (Y 0)), .int .i64 (V 0 - tY k (X 0) (Y 0))] 25)).drew).cell? ⟨w3.heap.size + 1, 1, none⟩ = _ by simp [go_sem])
          have G2 : w4.cell? ⟨w3.heap.size + 1, 2, none⟩ = some (.int .i64 (V 0 - tY k (X 0) (Y 0))) := keepC bw4 (show (((w3.alloc (.cells #[.int .i64 (tX k (X 0) (Y 0)), .int .i64 (tY k (X 0) (Y 0))] 36)).alloc (.cells #[.int .i64 k, .int .i64 (U 0 - tX k (X 0) (Y 0)), .int .i64 (V 0 - tY k (X 0) (Y 0))] 25)).drew).cell? ⟨w3.heap.size + 1, 2, none⟩ = _ by simp [go_sem])
          have B4 : Below w.heap.size w w4 := Ext.trans BB bw4
          have l4 : w.heap.size < w4.heap.size := by omega
          clear Dx Dy Dx' Dy' Z0 Z1 Z2 R0 R1 R2 bw4 BB
          rw [hvl]
          clear hvl
          go_wp2_with fail
          obtain ⟨wp, rfl⟩ : ∃ wp : World, wp = wr := ⟨_, rfl⟩
          go_loopw [10, 11] (fun s10 s5 wr => ∃ l : Nat, l ≤ i ∧ s5 = .int .i64 l ∧ s10 = .bool (allB (hitB k (U 0 - tX k (X 0) (Y 0)) (V 0 - tY k (X 0) (Y 0)) X Y U V) l) ∧ w3.heap.size + 1 < wr.heap.size ∧ Below w.heap.size w wr ∧ wr.cell? ⟨w.heap.size, 0, none⟩ = some (.int .i64 0) ∧ wr.cell? ⟨w.heap.size, 1, none⟩ = some (.int .i64 0) ∧ wr.cell? ⟨w.heap.size, 2, none⟩ = some (.int .i64 0) ∧ wr.frozen? ⟨w.heap.size, 0, none⟩ = false ∧ wr.frozen? ⟨w.heap.size, 1, none⟩ = false ∧ wr.frozen? ⟨w.heap.size, 2, none⟩ = false ∧ wr.cell? ⟨w3.heap.size + 1, 0, none⟩ = some (.int .i64 k) ∧ wr.cell? ⟨w3.heap.size + 1, 1, none⟩ = some (.int .i64 (U 0 - tX k (X 0) (Y 0))) ∧ wr.cell? ⟨w3.heap.size + 1, 2, none⟩ = some (.int .i64 (V 0 - tY k (X 0) (Y 0)))) (fun _ s5 _ => i - (intOf s5).toNat)
          case atStart => exact ⟨0, by omega, rfl, rfl, by omega, B4, A0, A1, A2, F0, F1, F2, G0, G1, G2⟩
          case round =>
            clear A0 A1 A2 F0 F1 F2 G0 G1 G2 B4
            obtain ⟨l, hl, rfl, rfl, hsz5, hW5, A0, A1, A2, F0, F1, F2, G0, G1, G2⟩ := hrel
            by_cases hli : l < i
            · obtain ⟨b3, o3, e3, hb3, cx, cy⟩ := HP.out.below hW5 l hli
              obtain ⟨b4, o4, e4, hb4, dx, dy⟩ := HQ.out.below hW5 l hli
              obtain ⟨rfl, rfl⟩ : b1 = b3 ∧ o1 = o3 := by simpa using e3
              obtain ⟨rfl, rfl⟩ : b2 = b4 ∧ o2 = o4 := by simpa using e4
              clear e3 e4
              have v1 : (l : Int) < (i : Int) := by omega
              have v0 : (0 : Int) ≤ (l : Int) := by omega
              obtain ⟨⟨y1, y2⟩, y3, y4⟩ := HON.out l hli
              have hS := allB_succ (hitB k (U 0 - tX k (X 0) (Y 0)) (V 0 - tY k (X 0) (Y 0)) X Y U V) l
              cases hp : allB (hitB k (U 0 - tX k (X 0) (Y 0)) (V 0 - tY k (X 0) (Y 0)) X Y U V) l with
              | false =>
                rw [hp] at hS
                have HS := Lib.hid hS
                clear hS hp
                go_wp2_with fail
                go_quiet (fail)
                go_wp2_with fail
                go_roundw
                case rel => exact ⟨l + 1, by omega, by go_num, by rw [HS.out]; rfl, hsz5, by (repeat (first | (with_reducible exact Below.refl _ _) | (with_reducible refine Ext.drewN ?_ _) | (with_reducible refine Below.drew ?_) | (with_reducible refine Ext.alloc ?_ _) | (with_reducible refine Ext.setCell ?_ (by simp; try omega) _) | (with_reducible refine Ext.trans ?_ (by assumption)) | (with_reducible assumption) | exact Below.refl _ _)), A0, A1, A2, F0, F1, F2, G0, G1, G2⟩
                case measure => simp [intOf]; omega
              | true =>
                rw [hp] at hS
                have HS := Lib.hid hS
                clear hS hp
                have heq : ∀ w : World, (Op.equalIn 10000 36 (.agg #[.int .i64 (tX k (X l) (Y l) + (U 0 - tX k (X 0) (Y 0))), .int .i64 (tY k (X l) (Y l) + (V 0 - tY k (X 0) (Y 0)))]) (.agg #[.int .i64 (U l), .int .i64 (V l)])).run Tryd.prog w = .ok (hitB k (U 0 - tX k (X 0) (Y 0)) (V 0 - tY k (X 0) (Y 0)) X Y U V l) w := fun w => by rw [eqPt]; rfl
                go_wp2_with fail
                go_region_held3 (fun w' => w3.heap.size + 1 < w'.heap.size ∧ Below w.heap.size w w' ∧ w'.cell? ⟨w.heap.size, 0, none⟩ = some (.int .i64 0) ∧ w'.cell? ⟨w.heap.size, 1, none⟩ = some (.int .i64 0) ∧ w'.cell? ⟨w.heap.size, 2, none⟩ = some (.int .i64 0) ∧ w'.frozen? ⟨w.heap.size, 0, none⟩ = false ∧ w'.frozen? ⟨w.heap.size, 1, none⟩ = false ∧ w'.frozen? ⟨w.heap.size, 2, none⟩ = false ∧ w'.cell? ⟨w3.heap.size + 1, 0, none⟩ = some (.int .i64 k) ∧ w'.cell? ⟨w3.heap.size + 1, 1, none⟩ = some (.int .i64 (U 0 - tX k (X 0) (Y 0))) ∧ w'.cell? ⟨w3.heap.size + 1, 2, none⟩ = some (.int .i64 (V 0 - tY k (X 0) (Y 0))) ∧ w'.cell? ⟨b1, o1 + l * 2, none⟩ = some (.int .i64 (X l)) ∧ w'.cell? ⟨b1, o1 + l * 2 + 1, none⟩ = some (.int .i64 (Y l)) ∧ w'.cell? ⟨b2, o2 + l * 2, none⟩ = some (.int .i64 (U l)) ∧ w'.cell? ⟨b2, o2 + l * 2 + 1, none⟩ = some (.int .i64 (V l)))
                  (first | ((try dsimp only); go_split_ands; (repeat' (with_reducible refine And.intro ?_ ?_)) <;> first | (with_reducible assumption) | (with_reducible exact keepC (by assumption) (by assumption)) | ((try simp only [World.size_drew]); omega) | (exact (Below.frozen (by assumption) (by (try simp only [World.size_drew]); omega)).trans (by assumption)) | ((repeat (first | (with_reducible exact Below.refl _ _) | (with_reducible refine Ext.drewN ?_ _) | (with_reducible refine Below.drew ?_) | (with_reducible refine Ext.alloc ?_ _) | (with_reducible refine Ext.setCell ?_ (by simp; try omega) _) | (with_reducible refine Ext.trans ?_ (by assumption)) | (with_reducible assumption) | exact Below.refl _ _)); done) | (go_keep; done)))
                  (first | (go_at_call 44; refine (l01Move_any k (U 0 - tX k (X 0) (Y 0)) (V 0 - tY k (X 0) (Y 0)) (X l) (Y l) _ (by omega) (by omega) (by omega) (by omega) (by omega) (by omega) (by omega) (by omega) (by omega) (by omega)).mono ?_; rintro e w6 ⟨rfl, bw6⟩; have s6 := bw6.size; (try simp only [World.size_drew] at s6)))
                go_split_ands
                go_wp2_with fail
                go_roundw
                case rel => exact ⟨l + 1, by omega, by go_num, by rw [HS.out]; rfl, by assumption, by assumption, by assumption, by assumption, by assumption, by assumption, by assumption, by assumption, by assumption, by assumption, by assumption⟩
                case measure => simp [intOf]; omega
            · have v1 : ¬ (l : Int) < (i : Int) := by omega
              obtain rfl : l = i := by omega
              have l5 : w.heap.size < wr.heap.size := by omega
              cases hfk : fit X Y U V l k with
              | false =>
                have hmb : allB (hitB k (U 0 - tX k (X 0) (Y 0)) (V 0 - tY k (X 0) (Y 0)) X Y U V) l = false := hfk
                have HFK := Lib.hid hfk
                clear hfk
                rw [hmb]
                clear hmb
                go_wp2_with fail
                go_roundw
                case rel => exact ⟨k + 1, by omega, by go_num, l5, hW5, A0, A1, A2, F0, F1, F2, fun j hj => by
                  by_cases e : j = k
                  · subst e; exact HFK.out
                  · exact HF.out j (by omega)⟩
                case measure => simp [intOf]; omega
              | true =>
                have hmb : allB (hitB k (U 0 - tX k (X 0) (Y 0)) (V 0 - tY k (X 0) (Y 0)) X Y U V) l = true := hfk
                have HFK := Lib.hid hfk
                clear hfk
                rw [hmb]
                clear hmb
                go_wp2_with fail
                refine bodyPost_ret (v := .tuple #[.agg #[.int .i64 (k : Nat), .int .i64 (U 0 - tX k (X 0) (Y 0)), .int .i64 (V 0 - tY k (X 0) (Y 0))], .bool true]) (by simp [*, results, Tryd.results37, go_sem]) rfl (found_yes (f_yes HPRE.out hk8 HFK.out HF.out) ?_)
                (repeat (first | (with_reducible exact Below.refl _ _) | (with_reducible refine Ext.drewN ?_ _) | (with_reducible refine Below.drew ?_) | (with_reducible refine Ext.alloc ?_ _) | (with_reducible refine Ext.setCell ?_ (by simp; try omega) _) | (with_reducible refine Ext.trans ?_ (by assumption)) | (with_reducible assumption) | exact Below.refl _ _))
        · obtain rfl : k = 8 := by omega
          go_wp2_with fail
          refine bodyPost_ret (v := .tuple #[.agg #[.int .i64 0, .int .i64 0, .int .i64 0], .bool false]) (by simp [*, results, Tryd.results37, go_sem]) rfl (found_no (f_no_fo HF.out) ?_)
          (repeat (first | (with_reducible exact Below.refl _ _) | (with_reducible refine Ext.drewN ?_ _) | (with_reducible refine Below.drew ?_) | (with_reducible refine Ext.alloc ?_ _) | (with_reducible refine Ext.setCell ?_ (by simp; try omega) _) | (with_reducible refine Ext.trans ?_ (by assumption)) | (with_reducible assumption) | exact Below.refl _ _))
end Go.Proofs.YtliaconoppnclaaDoor
