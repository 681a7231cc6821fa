/- Rectangles: BoundingBox, the program's. Conditions: the elements' cells are in memory. -/
import Derived.Test.YtdcddneanbplpaaDoorReK
namespace Go.Proofs.YtdcddneanbplpaaDoor
open Go.RowKit
set_option linter.unusedVariables false
set_option linter.unusedSimpArgs false
attribute [local go_sem ↓] Go.wp_at_zero Go.wp_at_succ

set_option maxHeartbeats 4000000 in
theorem implBB_any (m : Option Addr) (len : Nat) (P Q R S : Nat → Int) (w : World) (hC : ChipW w) (hlen : len ≤ 1048576) (hR : RectsIs w.heap.size w m len P Q R S) :
    Calls Tryd.prog 34 #[.slice m len len] w fun e w' => e = .returned (bbV P Q R S len) ∧ Below w.heap.size w w' := by
  by_cases h1 : 0 < len ∧ len ≤ 3200
  case neg =>
    rw [bbV_no (by simp [bbB, h1])]
    by_cases h0 : len = 0
    · subst h0
      go_enter Tryd.func34, Tryd.ntmps34
      go_wp2_with fail
      refine bodyPost_ret (v := .tuple #[.agg #[.int .i64 0, .int .i64 0, .int .i64 0, .int .i64 0], .bool false]) (by simp [*, results, Tryd.results34, go_sem]) rfl ⟨rfl, ?_⟩
      (repeat (first | (with_reducible exact Below.refl _ _) | (with_reducible refine Ext.drewN ?_ _) | (with_reducible refine Below.drew ?_) | (with_reducible refine Ext.alloc ?_ _) | (with_reducible refine Ext.setCell ?_ (by simp; try omega) _) | (with_reducible refine Ext.trans ?_ (by assumption)) | (with_reducible assumption) | exact Below.refl _ _))
    · have h3 : (3200 : Int) < (len : Int) := by omega
      have h4 : ¬ (len : Int) = 0 := by omega
      have h5 : ((len : Int) == 0) = false := by simp; omega
      go_enter Tryd.func34, Tryd.ntmps34
      go_wp2_with fail
      refine bodyPost_ret (v := .tuple #[.agg #[.int .i64 0, .int .i64 0, .int .i64 0, .int .i64 0], .bool false]) (by simp [*, results, Tryd.results34, go_sem]) rfl ⟨rfl, ?_⟩
      (repeat (first | (with_reducible exact Below.refl _ _) | (with_reducible refine Ext.drewN ?_ _) | (with_reducible refine Below.drew ?_) | (with_reducible refine Ext.alloc ?_ _) | (with_reducible refine Ext.setCell ?_ (by simp; try omega) _) | (with_reducible refine Ext.trans ?_ (by assumption)) | (with_reducible assumption) | exact Below.refl _ _))
  case pos =>
    have h3 : ¬ (3200 : Int) < (len : Int) := by omega
    have h4 : ¬ (len : Int) = 0 := by omega
    have h5 : ((len : Int) == 0) = false := by simp; omega
    cases hv : allV P Q R S len with
    | false =>
      rw [bbV_no (by simp [bbB, hv])]
      go_enter Tryd.func34, Tryd.ntmps34
      go_wp2_with fail
      go_call (areValid_any m len len P Q R S _ (hC.ext (by (repeat (first | (with_reducible exact Below.refl _ _) | (with_reducible refine Ext.drewN ?_ _) | (with_reducible refine Below.drew ?_) | (with_reducible refine Ext.alloc ?_ _) | (with_reducible refine Ext.setCell ?_ (by simp; try omega) _) | (with_reducible refine Ext.trans ?_ (by assumption)) | (with_reducible assumption) | exact Below.refl _ _)))) hlen (hR.ext (by (repeat (first | (with_reducible exact Below.refl _ _) | (with_reducible refine Ext.drewN ?_ _) | (with_reducible refine Below.drew ?_) | (with_reducible refine Ext.alloc ?_ _) | (with_reducible refine Ext.setCell ?_ (by simp; try omega) _) | (with_reducible refine Ext.trans ?_ (by assumption)) | (with_reducible assumption) | exact Below.refl _ _))))) as e w1 ⟨rfl, bw1⟩
      obtain ⟨sw1, zw1, cw1, fw1⟩ := bcell bw1
      try simp only [World.size_alloc, World.size_setCell, World.size_drew] at sw1
      try have lw1_w_0 : w.heap.size < w1.heap.size := by omega
      try have lw1_w_1 : w.heap.size + 1 < w1.heap.size := by omega
      try have lw1_w_2 : w.heap.size + 1 + 1 < w1.heap.size := by omega
      try have lw1_w_3 : w.heap.size + 1 + 1 + 1 < w1.heap.size := by omega
      try have lw1_w_4 : w.heap.size + 1 + 1 + 1 + 1 < w1.heap.size := by omega
      try have lw1_w_5 : w.heap.size + 1 + 1 + 1 + 1 + 1 < w1.heap.size := by omega
      try have lw1_w_6 : w.heap.size + 1 + 1 + 1 + 1 + 1 + 1 < w1.heap.size := by omega
      rw [hv]
      go_wp2_with fail
      refine bodyPost_ret (v := .tuple #[.agg #[.int .i64 0, .int .i64 0, .int .i64 0, .int .i64 0], .bool false]) (by simp [*, results, Tryd.results34, go_sem]) rfl ⟨rfl, ?_⟩
      (repeat (first | (with_reducible exact Below.refl _ _) | (with_reducible refine Ext.drewN ?_ _) | (with_reducible refine Below.drew ?_) | (with_reducible refine Ext.alloc ?_ _) | (with_reducible refine Ext.setCell ?_ (by simp; try omega) _) | (with_reducible refine Ext.trans ?_ (by assumption)) | (with_reducible assumption) | exact Below.refl _ _))
    | true =>
      rw [bbV_yes (by simp [bbB, h1, hv])]
      obtain ⟨b0, o0, rfl, hb0, t0, t1, t2, t3⟩ := hR 0 h1.1
      simp only [Nat.zero_mul, Nat.add_zero] at t0 t1 t2 t3
      by_cases e1 : len = 1
      · subst e1
        go_enter Tryd.func34, Tryd.ntmps34
        go_wp2_with fail
        go_call (areValid_any _ 1 1 P Q R S _ (hC.ext (by (repeat (first | (with_reducible exact Below.refl _ _) | (with_reducible refine Ext.drewN ?_ _) | (with_reducible refine Below.drew ?_) | (with_reducible refine Ext.alloc ?_ _) | (with_reducible refine Ext.setCell ?_ (by simp; try omega) _) | (with_reducible refine Ext.trans ?_ (by assumption)) | (with_reducible assumption) | exact Below.refl _ _)))) hlen (hR.ext (by (repeat (first | (with_reducible exact Below.refl _ _) | (with_reducible refine Ext.drewN ?_ _) | (with_reducible refine Below.drew ?_) | (with_reducible refine Ext.alloc ?_ _) | (with_reducible refine Ext.setCell ?_ (by simp; try omega) _) | (with_reducible refine Ext.trans ?_ (by assumption)) | (with_reducible assumption) | exact Below.refl _ _))))) as e w1 ⟨rfl, bw1⟩
        obtain ⟨sw1, zw1, cw1, fw1⟩ := bcell bw1
        try simp only [World.size_alloc, World.size_setCell, World.size_drew] at sw1
        try have lw1_w_0 : w.heap.size < w1.heap.size := by omega
        try have lw1_w_1 : w.heap.size + 1 < w1.heap.size := by omega
        try have lw1_w_2 : w.heap.size + 1 + 1 < w1.heap.size := by omega
        try have lw1_w_3 : w.heap.size + 1 + 1 + 1 < w1.heap.size := by omega
        try have lw1_w_4 : w.heap.size + 1 + 1 + 1 + 1 < w1.heap.size := by omega
        try have lw1_w_5 : w.heap.size + 1 + 1 + 1 + 1 + 1 < w1.heap.size := by omega
        try have lw1_w_6 : w.heap.size + 1 + 1 + 1 + 1 + 1 + 1 < w1.heap.size := by omega
        rw [hv]
        have B1 : Below w.heap.size w w1 := by (repeat (first | (with_reducible exact Below.refl _ _) | (with_reducible refine Ext.drewN ?_ _) | (with_reducible refine Below.drew ?_) | (with_reducible refine Ext.alloc ?_ _) | (with_reducible refine Ext.setCell ?_ (by simp; try omega) _) | (with_reducible refine Ext.trans ?_ (by assumption)) | (with_reducible assumption) | exact Below.refl _ _))
        have Z1 : RectAt w1 w.heap.size 0 0 0 0 := RectAt.below (by unfold RectAt; simp [go_sem]) bw1
        have u0 : w1.cell? ⟨b0, o0, none⟩ = some (.int .i64 (P 0)) := (B1.cell (p := ⟨b0, o0, none⟩) hb0).trans t0
        have u1 : w1.cell? ⟨b0, o0 + 1, none⟩ = some (.int .i64 (Q 0)) := (B1.cell (p := ⟨b0, o0 + 1, none⟩) hb0).trans t1
        have u2 : w1.cell? ⟨b0, o0 + 2, none⟩ = some (.int .i64 (R 0)) := (B1.cell (p := ⟨b0, o0 + 2, none⟩) hb0).trans t2
        have u3 : w1.cell? ⟨b0, o0 + 3, none⟩ = some (.int .i64 (S 0)) := (B1.cell (p := ⟨b0, o0 + 3, none⟩) hb0).trans t3
        go_wp2_with fail
        obtain ⟨Z10, Z11, Z12, Z13, Z14, Z15, Z16, Z17⟩ := Z1
        clear bw1 zw1 cw1 fw1
        go_region_held3 (fun w' => w.heap.size < w'.heap.size ∧ Below w.heap.size w w' ∧ w'.cell? ⟨w.heap.size, 0, none⟩ = some (rd w' w.heap.size 0) ∧ w'.cell? ⟨w.heap.size, 1, none⟩ = some (rd w' w.heap.size 1) ∧ w'.cell? ⟨w.heap.size, 2, none⟩ = some (rd w' w.heap.size 2) ∧ w'.cell? ⟨w.heap.size, 3, none⟩ = some (rd w' w.heap.size 3) ∧ w'.frozen? ⟨w.heap.size, 0, none⟩ = false ∧ w'.frozen? ⟨w.heap.size, 1, none⟩ = false ∧ w'.frozen? ⟨w.heap.size, 2, none⟩ = false ∧ w'.frozen? ⟨w.heap.size, 3, none⟩ = false ∧ w'.cell? ⟨b0, o0, none⟩ = some (.int .i64 (P 0)) ∧ w'.cell? ⟨b0, o0 + 1, none⟩ = some (.int .i64 (Q 0)) ∧ w'.cell? ⟨b0, o0 + 2, none⟩ = some (.int .i64 (R 0)) ∧ w'.cell? ⟨b0, o0 + 3, none⟩ = some (.int .i64 (S 0)))
          (first | ((try dsimp only); go_split_ands; (repeat' (with_reducible refine And.intro ?_ ?_)) <;> first | (with_reducible assumption) | (with_reducible exact keepC (by assumption) (by assumption)) | ((repeat (with_reducible refine rdS ?_ _ _)); (first | (with_reducible assumption) | (exact rdB (by assumption) (by assumption)) | (exact rd_of (by assumption)))) | (exact keepF (by assumption) (by assumption) (by assumption)) | ((repeat (with_reducible refine keepS ?_ (by simp; try omega) _)); (with_reducible assumption)) | ((try simp only [World.frozen?_setCell]); (with_reducible assumption)) | ((try simp only [World.size_alloc, World.size_setCell, World.size_drew]); omega) | ((repeat (first | (with_reducible exact Below.refl _ _) | (with_reducible refine Ext.drewN ?_ _) | (with_reducible refine Below.drew ?_) | (with_reducible refine Ext.alloc ?_ _) | (with_reducible refine Ext.setCell ?_ (by simp; try omega) _) | (with_reducible refine Ext.trans ?_ (by assumption)) | (with_reducible assumption) | exact Below.refl _ _)); done) | (go_keep; done)))
          (first | (go_at_call 75; refine (boxOf_any (P 0) (Q 0) (R 0) (S 0) _ 0 _ (sh P) (sh Q) (sh R) (sh S) _ (by omega) (fun i hi => absurd hi (by omega))).mono ?_; rintro e v1 ⟨rfl, bv1⟩; obtain ⟨sv1, zv1, cv1, fv1⟩ := bcell bv1; (try simp only [World.size_alloc, World.size_setCell, World.size_drew] at sv1)))
        all_goals
          rename_i hH
          clear hH
          have k0 := keepC bv1 (by simpa [go_sem] using Z10)
          have k1 := keepC bv1 (by simpa [go_sem] using Z11)
          have k2 := keepC bv1 (by simpa [go_sem] using Z12)
          have k3 := keepC bv1 (by simpa [go_sem] using Z13)
          obtain ⟨t0, t1, t2, t3⟩ := set4_all (v0 := .int .i64 (mn (sh P) (P 0) 0)) (v1 := .int .i64 (mn (sh Q) (Q 0) 0)) (v2 := .int .i64 (mx (sh R) (R 0) 0)) (v3 := .int .i64 (mx (sh S) (S 0) 0)) k0 k1 k2 k3
          go_wp2_with fail
          refine bodyPost_ret (v := .tuple #[.agg #[.int .i64 (mn (sh P) (P 0) 0), .int .i64 (mn (sh Q) (Q 0) 0), .int .i64 (mx (sh R) (R 0) 0), .int .i64 (mx (sh S) (S 0) 0)], .bool true]) (by simp [*, results, Tryd.results34, go_sem]) rfl ⟨rfl, ?_⟩
          (repeat (first | (with_reducible exact Below.refl _ _) | (with_reducible refine Ext.drewN ?_ _) | (with_reducible refine Below.drew ?_) | (with_reducible refine Ext.alloc ?_ _) | (with_reducible refine Ext.setCell ?_ (by simp; try omega) _) | (with_reducible refine Ext.trans ?_ (by assumption)) | (with_reducible assumption) | exact Below.refl _ _))
      · have n1 : (1 : Int) ≤ (len : Int) := by omega
        go_enter Tryd.func34, Tryd.ntmps34
        go_wp2_with fail
        go_call (areValid_any _ len len P Q R S _ (hC.ext (by (repeat (first | (with_reducible exact Below.refl _ _) | (with_reducible refine Ext.drewN ?_ _) | (with_reducible refine Below.drew ?_) | (with_reducible refine Ext.alloc ?_ _) | (with_reducible refine Ext.setCell ?_ (by simp; try omega) _) | (with_reducible refine Ext.trans ?_ (by assumption)) | (with_reducible assumption) | exact Below.refl _ _)))) hlen (hR.ext (by (repeat (first | (with_reducible exact Below.refl _ _) | (with_reducible refine Ext.drewN ?_ _) | (with_reducible refine Below.drew ?_) | (with_reducible refine Ext.alloc ?_ _) | (with_reducible refine Ext.setCell ?_ (by simp; try omega) _) | (with_reducible refine Ext.trans ?_ (by assumption)) | (with_reducible assumption) | exact Below.refl _ _))))) as e w1 ⟨rfl, bw1⟩
        obtain ⟨sw1, zw1, cw1, fw1⟩ := bcell bw1
        try simp only [World.size_alloc, World.size_setCell, World.size_drew] at sw1
        try have lw1_w_0 : w.heap.size < w1.heap.size := by omega
        try have lw1_w_1 : w.heap.size + 1 < w1.heap.size := by omega
        try have lw1_w_2 : w.heap.size + 1 + 1 < w1.heap.size := by omega
        try have lw1_w_3 : w.heap.size + 1 + 1 + 1 < w1.heap.size := by omega
        try have lw1_w_4 : w.heap.size + 1 + 1 + 1 + 1 < w1.heap.size := by omega
        try have lw1_w_5 : w.heap.size + 1 + 1 + 1 + 1 + 1 < w1.heap.size := by omega
        try have lw1_w_6 : w.heap.size + 1 + 1 + 1 + 1 + 1 + 1 < w1.heap.size := by omega
        rw [hv]
        have B1 : Below w.heap.size w w1 := by (repeat (first | (with_reducible exact Below.refl _ _) | (with_reducible refine Ext.drewN ?_ _) | (with_reducible refine Below.drew ?_) | (with_reducible refine Ext.alloc ?_ _) | (with_reducible refine Ext.setCell ?_ (by simp; try omega) _) | (with_reducible refine Ext.trans ?_ (by assumption)) | (with_reducible assumption) | exact Below.refl _ _))
        have Z1 : RectAt w1 w.heap.size 0 0 0 0 := RectAt.below (by unfold RectAt; simp [go_sem]) bw1
        have u0 : w1.cell? ⟨b0, o0, none⟩ = some (.int .i64 (P 0)) := (B1.cell (p := ⟨b0, o0, none⟩) hb0).trans t0
        have u1 : w1.cell? ⟨b0, o0 + 1, none⟩ = some (.int .i64 (Q 0)) := (B1.cell (p := ⟨b0, o0 + 1, none⟩) hb0).trans t1
        have u2 : w1.cell? ⟨b0, o0 + 2, none⟩ = some (.int .i64 (R 0)) := (B1.cell (p := ⟨b0, o0 + 2, none⟩) hb0).trans t2
        have u3 : w1.cell? ⟨b0, o0 + 3, none⟩ = some (.int .i64 (S 0)) := (B1.cell (p := ⟨b0, o0 + 3, none⟩) hb0).trans t3
        go_wp2_with fail
        obtain ⟨Z10, Z11, Z12, Z13, Z14, Z15, Z16, Z17⟩ := Z1
        clear bw1 zw1 cw1 fw1
        go_region_held3 (fun w' => w.heap.size < w'.heap.size ∧ Below w.heap.size w w' ∧ w'.cell? ⟨w.heap.size, 0, none⟩ = some (rd w' w.heap.size 0) ∧ w'.cell? ⟨w.heap.size, 1, none⟩ = some (rd w' w.heap.size 1) ∧ w'.cell? ⟨w.heap.size, 2, none⟩ = some (rd w' w.heap.size 2) ∧ w'.cell? ⟨w.heap.size, 3, none⟩ = some (rd w' w.heap.size 3) ∧ w'.frozen? ⟨w.heap.size, 0, none⟩ = false ∧ w'.frozen? ⟨w.heap.size, 1, none⟩ = false ∧ w'.frozen? ⟨w.heap.size, 2, none⟩ = false ∧ w'.frozen? ⟨w.heap.size, 3, none⟩ = false ∧ w'.cell? ⟨b0, o0, none⟩ = some (.int .i64 (P 0)) ∧ w'.cell? ⟨b0, o0 + 1, none⟩ = some (.int .i64 (Q 0)) ∧ w'.cell? ⟨b0, o0 + 2, none⟩ = some (.int .i64 (R 0)) ∧ w'.cell? ⟨b0, o0 + 3, none⟩ = some (.int .i64 (S 0)))
          (first | ((try dsimp only); go_split_ands; (repeat' (with_reducible refine And.intro ?_ ?_)) <;> first | (with_reducible assumption) | (with_reducible exact keepC (by assumption) (by assumption)) | ((repeat (with_reducible refine rdS ?_ _ _)); (first | (with_reducible assumption) | (exact rdB (by assumption) (by assumption)) | (exact rd_of (by assumption)))) | (exact keepF (by assumption) (by assumption) (by assumption)) | ((repeat (with_reducible refine keepS ?_ (by simp; try omega) _)); (with_reducible assumption)) | ((try simp only [World.frozen?_setCell]); (with_reducible assumption)) | ((try simp only [World.size_alloc, World.size_setCell, World.size_drew]); omega) | ((repeat (first | (with_reducible exact Below.refl _ _) | (with_reducible refine Ext.drewN ?_ _) | (with_reducible refine Below.drew ?_) | (with_reducible refine Ext.alloc ?_ _) | (with_reducible refine Ext.setCell ?_ (by simp; try omega) _) | (with_reducible refine Ext.trans ?_ (by assumption)) | (with_reducible assumption) | exact Below.refl _ _)); done) | (go_keep; done)))
          (first | (go_at_call 75; refine (boxOf_any (P 0) (Q 0) (R 0) (S 0) _ (len - 1) _ (sh P) (sh Q) (sh R) (sh S) _ (by omega) ?_).mono ?_; (go_split_ands; refine RectsIs.tail (hR.ext ?_); assumption); rintro e v1 ⟨rfl, bv1⟩; obtain ⟨sv1, zv1, cv1, fv1⟩ := bcell bv1; (try simp only [World.size_alloc, World.size_setCell, World.size_drew] at sv1)))
        all_goals
          rename_i hH
          clear hH
          have k0 := keepC bv1 (by simpa [go_sem] using Z10)
          have k1 := keepC bv1 (by simpa [go_sem] using Z11)
          have k2 := keepC bv1 (by simpa [go_sem] using Z12)
          have k3 := keepC bv1 (by simpa [go_sem] using Z13)
          obtain ⟨t0, t1, t2, t3⟩ := set4_all (v0 := .int .i64 (mn (sh P) (P 0) (len - 1))) (v1 := .int .i64 (mn (sh Q) (Q 0) (len - 1))) (v2 := .int .i64 (mx (sh R) (R 0) (len - 1))) (v3 := .int .i64 (mx (sh S) (S 0) (len - 1))) k0 k1 k2 k3
          go_wp2_with fail
          refine bodyPost_ret (v := .tuple #[.agg #[.int .i64 (mn (sh P) (P 0) (len - 1)), .int .i64 (mn (sh Q) (Q 0) (len - 1)), .int .i64 (mx (sh R) (R 0) (len - 1)), .int .i64 (mx (sh S) (S 0) (len - 1))], .bool true]) (by simp [*, results, Tryd.results34, go_sem]) rfl ⟨rfl, ?_⟩
          (repeat (first | (with_reducible exact Below.refl _ _) | (with_reducible refine Ext.drewN ?_ _) | (with_reducible refine Below.drew ?_) | (with_reducible refine Ext.alloc ?_ _) | (with_reducible refine Ext.setCell ?_ (by simp; try omega) _) | (with_reducible refine Ext.trans ?_ (by assumption)) | (with_reducible assumption) | exact Below.refl _ _))
end Go.Proofs.YtdcddneanbplpaaDoor
