/- The program's RegionBox; FnExactRegionBox answers true. Conditions: the rectangles' cells are in memory; the table of math/bits is in memory. -/
import Derived.Test.YtpbijohdnocleaaDoorRgP
import Derived.Test.YtpbijohdnocleaaDoorRiP
import Derived.Test.YtpbijohdnocleaaDoorReL
import Derived.Test.YtpbijohdnocleaaDoorDebTab
namespace Go.Proofs.YtpbijohdnocleaaDoor
open Go.RowKit
set_option linter.unusedVariables false
set_option linter.unusedSimpArgs false

theorem bbV_of {P Q R S : Nat → Int} {n : Nat} (hok : okR P Q R S n = true) : bbV P Q R S n = .tuple #[.agg #[.int .i64 (rb0 P Q R S n), .int .i64 (rb1 P Q R S n), .int .i64 (rb2 P Q R S n), .int .i64 (rb3 P Q R S n)], .bool (rbB P Q R S n)] := by
  have hlen : n ≤ 3200 := by
    have h := canonL_len' (covF P Q R S n)
    rw [((okR_iff P Q R S n).1 hok).2, listR_len] at h
    exact h
  have hb : bbB P Q R S n = rbB P Q R S n := by
    unfold bbB rbB
    rw [hok, allV_t (okR_all hok), Bool.and_true, Bool.true_and, Bool.eq_iff_iff, decide_eq_true_eq, decide_eq_true_eq]
    omega
  unfold bbV bb0 bb1 bb2 bb3 rb0 rb1 rb2 rb3
  rw [hb]

set_option maxHeartbeats 4000000 in
theorem implRegionBox : ImplRegionBox := by
  intro m n P Q R S w hn hD hR
  cases hok : okR P Q R S n with
  | false =>
    have hb : rbB P Q R S n = false := by unfold rbB; rw [hok]; rfl
    have e0 : rb0 P Q R S n = 0 := by unfold rb0; rw [hb]; rfl
    have e1 : rb1 P Q R S n = 0 := by unfold rb1; rw [hb]; rfl
    have e2 : rb2 P Q R S n = 0 := by unfold rb2; rw [hb]; rfl
    have e3 : rb3 P Q R S n = 0 := by unfold rb3; rw [hb]; rfl
    rw [hb, e0, e1, e2, e3]
    clear hb e0 e1 e2 e3
    go_enter Tryd.func33, Tryd.ntmps33
    go_wp2_with fail
    go_call (isRegion_any m n n P Q R S _ hn (Nat.le_refl _) (hD.ext (by (repeat (first | (with_reducible exact Below.refl _ _) | (with_reducible refine Ext.drewN ?_ _) | (with_reducible refine Below.drew ?_) | (with_reducible refine Ext.alloc ?_ _) | (with_reducible refine Ext.setCell ?_ (by simp; try omega) _) | (with_reducible refine Ext.trans ?_ (by assumption)) | (with_reducible assumption) | exact Below.refl _ _)))) (hR.ext (by (repeat (first | (with_reducible exact Below.refl _ _) | (with_reducible refine Ext.drewN ?_ _) | (with_reducible refine Below.drew ?_) | (with_reducible refine Ext.alloc ?_ _) | (with_reducible refine Ext.setCell ?_ (by simp; try omega) _) | (with_reducible refine Ext.trans ?_ (by assumption)) | (with_reducible assumption) | exact Below.refl _ _))))) as e w1 ⟨rfl, bw1⟩
    obtain ⟨sw1, zw1, cw1, fw1⟩ := bcell bw1
    try simp only [World.size_alloc, World.size_setCell, World.size_drew] at sw1
    try have lw1_w_0 : w.heap.size < w1.heap.size := by omega
    try have lw1_w_1 : w.heap.size + 1 < w1.heap.size := by omega
    try have lw1_w_2 : w.heap.size + 1 + 1 < w1.heap.size := by omega
    try have lw1_w_3 : w.heap.size + 1 + 1 + 1 < w1.heap.size := by omega
    try have lw1_w_4 : w.heap.size + 1 + 1 + 1 + 1 < w1.heap.size := by omega
    try have lw1_w_5 : w.heap.size + 1 + 1 + 1 + 1 + 1 < w1.heap.size := by omega
    try have lw1_w_6 : w.heap.size + 1 + 1 + 1 + 1 + 1 + 1 < w1.heap.size := by omega
    rw [hok]
    go_wp2_with fail
    refine bodyPost_ret (v := .tuple #[.agg #[.int .i64 0, .int .i64 0, .int .i64 0, .int .i64 0], .bool false]) (by simp [*, results, Tryd.results33, go_sem]) rfl ⟨rfl, ?_⟩
    (repeat (first | (with_reducible exact Below.refl _ _) | (with_reducible refine Ext.drewN ?_ _) | (with_reducible refine Below.drew ?_) | (with_reducible refine Ext.alloc ?_ _) | (with_reducible refine Ext.setCell ?_ (by simp; try omega) _) | (with_reducible refine Ext.trans ?_ (by assumption)) | (with_reducible assumption) | exact Below.refl _ _))
  | true =>
    have hbb := bbV_of hok
    rw [← hbb]
    obtain ⟨B, hB⟩ : ∃ B, B = bbB P Q R S n := ⟨_, rfl⟩
    obtain ⟨x0, hx0⟩ : ∃ x, x = bb0 P Q R S n := ⟨_, rfl⟩
    obtain ⟨x1, hx1⟩ : ∃ x, x = bb1 P Q R S n := ⟨_, rfl⟩
    obtain ⟨x2, hx2⟩ : ∃ x, x = bb2 P Q R S n := ⟨_, rfl⟩
    obtain ⟨x3, hx3⟩ : ∃ x, x = bb3 P Q R S n := ⟨_, rfl⟩
    have HV := Lib.hid (show bbV P Q R S n = .tuple #[.agg #[.int .i64 x0, .int .i64 x1, .int .i64 x2, .int .i64 x3], .bool B] by rw [hx0, hx1, hx2, hx3, hB]; rfl)
    clear hbb hB hx0 hx1 hx2 hx3
    rw [HV.out]
    go_enter Tryd.func33, Tryd.ntmps33
    go_wp2_with fail
    go_call (isRegion_any m n n P Q R S _ hn (Nat.le_refl _) (hD.ext (by (repeat (first | (with_reducible exact Below.refl _ _) | (with_reducible refine Ext.drewN ?_ _) | (with_reducible refine Below.drew ?_) | (with_reducible refine Ext.alloc ?_ _) | (with_reducible refine Ext.setCell ?_ (by simp; try omega) _) | (with_reducible refine Ext.trans ?_ (by assumption)) | (with_reducible assumption) | exact Below.refl _ _)))) (hR.ext (by (repeat (first | (with_reducible exact Below.refl _ _) | (with_reducible refine Ext.drewN ?_ _) | (with_reducible refine Below.drew ?_) | (with_reducible refine Ext.alloc ?_ _) | (with_reducible refine Ext.setCell ?_ (by simp; try omega) _) | (with_reducible refine Ext.trans ?_ (by assumption)) | (with_reducible assumption) | exact Below.refl _ _))))) as e w1 ⟨rfl, bw1⟩
    obtain ⟨sw1, zw1, cw1, fw1⟩ := bcell bw1
    try simp only [World.size_alloc, World.size_setCell, World.size_drew] at sw1
    try have lw1_w_0 : w.heap.size < w1.heap.size := by omega
    try have lw1_w_1 : w.heap.size + 1 < w1.heap.size := by omega
    try have lw1_w_2 : w.heap.size + 1 + 1 < w1.heap.size := by omega
    try have lw1_w_3 : w.heap.size + 1 + 1 + 1 < w1.heap.size := by omega
    try have lw1_w_4 : w.heap.size + 1 + 1 + 1 + 1 < w1.heap.size := by omega
    try have lw1_w_5 : w.heap.size + 1 + 1 + 1 + 1 + 1 < w1.heap.size := by omega
    try have lw1_w_6 : w.heap.size + 1 + 1 + 1 + 1 + 1 + 1 < w1.heap.size := by omega
    rw [hok]
    go_wp2_with fail
    go_call (implBB_any m n P Q R S _ (hD.chip.ext (by (repeat (first | (with_reducible exact Below.refl _ _) | (with_reducible refine Ext.drewN ?_ _) | (with_reducible refine Below.drew ?_) | (with_reducible refine Ext.alloc ?_ _) | (with_reducible refine Ext.setCell ?_ (by simp; try omega) _) | (with_reducible refine Ext.trans ?_ (by assumption)) | (with_reducible assumption) | exact Below.refl _ _)))) hn (hR.ext (by (repeat (first | (with_reducible exact Below.refl _ _) | (with_reducible refine Ext.drewN ?_ _) | (with_reducible refine Below.drew ?_) | (with_reducible refine Ext.alloc ?_ _) | (with_reducible refine Ext.setCell ?_ (by simp; try omega) _) | (with_reducible refine Ext.trans ?_ (by assumption)) | (with_reducible assumption) | exact Below.refl _ _))))) as e w2 ⟨rfl, bw2⟩
    obtain ⟨sw2, zw2, cw2, fw2⟩ := bcell bw2
    try simp only [World.size_alloc, World.size_setCell, World.size_drew] at sw2
    try have lw2_w1_0 : w1.heap.size < w2.heap.size := by omega
    try have lw2_w1_1 : w1.heap.size + 1 < w2.heap.size := by omega
    try have lw2_w1_2 : w1.heap.size + 1 + 1 < w2.heap.size := by omega
    try have lw2_w1_3 : w1.heap.size + 1 + 1 + 1 < w2.heap.size := by omega
    try have lw2_w1_4 : w1.heap.size + 1 + 1 + 1 + 1 < w2.heap.size := by omega
    try have lw2_w1_5 : w1.heap.size + 1 + 1 + 1 + 1 + 1 < w2.heap.size := by omega
    try have lw2_w1_6 : w1.heap.size + 1 + 1 + 1 + 1 + 1 + 1 < w2.heap.size := by omega
    try have lw2_w_0 : w.heap.size < w2.heap.size := by omega
    try have lw2_w_1 : w.heap.size + 1 < w2.heap.size := by omega
    try have lw2_w_2 : w.heap.size + 1 + 1 < w2.heap.size := by omega
    try have lw2_w_3 : w.heap.size + 1 + 1 + 1 < w2.heap.size := by omega
    try have lw2_w_4 : w.heap.size + 1 + 1 + 1 + 1 < w2.heap.size := by omega
    try have lw2_w_5 : w.heap.size + 1 + 1 + 1 + 1 + 1 < w2.heap.size := by omega
    try have lw2_w_6 : w.heap.size + 1 + 1 + 1 + 1 + 1 + 1 < w2.heap.size := by omega
    rw [HV.out]
    go_wp2_with fail
    refine bodyPost_ret (v := .tuple #[.agg #[.int .i64 x0, .int .i64 x1, .int .i64 x2, .int .i64 x3], .bool B]) (by simp [*, results, Tryd.results33, go_sem]) rfl ⟨rfl, ?_⟩
    (repeat (first | (with_reducible exact Below.refl _ _) | (with_reducible refine Ext.drewN ?_ _) | (with_reducible refine Below.drew ?_) | (with_reducible refine Ext.alloc ?_ _) | (with_reducible refine Ext.setCell ?_ (by simp; try omega) _) | (with_reducible refine Ext.trans ?_ (by assumption)) | (with_reducible assumption) | exact Below.refl _ _))

theorem walkRegionBox' (a : Option Addr) (n c1 : Nat) (w : World) (hn : n ≤ maxLen) (hPe : ∃ P Q R S, RectsIs w.heap.size w a n P Q R S) (hDb : EnvW w) :
    Calls Tryd.prog 7 #[.slice a n c1] w fun e w' => e = .returned (.bool true) ∧ Below w.heap.size w w' :=
  walkRegionBox implRegionBox a n c1 w hn hPe hDb
end Go.Proofs.YtpbijohdnocleaaDoor
