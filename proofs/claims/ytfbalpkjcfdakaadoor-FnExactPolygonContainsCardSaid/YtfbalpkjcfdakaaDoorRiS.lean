/- The program's RegionContains. -/
import Derived.Test.YtfbalpkjcfdakaaDoorQI
import Derived.Test.YtfbalpkjcfdakaaDoorQE
namespace Go.Proofs.YtfbalpkjcfdakaaDoor
open Go.RowKit
set_option linter.unusedVariables false
set_option linter.unusedSimpArgs false

/-- The literal: does the rectangle contain the cell? -/
theorem lit_any (a b c d x y : Int) (gx gy : Nat) (w : World) (hC : ChipW w) (hx : w.cell? ⟨gx, 0, none⟩ = some (.int .i64 x)) (hy : w.cell? ⟨gy, 0, none⟩ = some (.int .i64 y)) (lx : gx < w.heap.size) (ly : gy < w.heap.size) :
    Calls Tryd.prog 112 #[.agg #[.int .i64 a, .int .i64 b, .int .i64 c, .int .i64 d], .pointer (some ⟨gx, 0, none⟩), .pointer (some ⟨gy, 0, none⟩)] w fun e w' => e = .returned (.bool (rcB a b c d x y)) ∧ Below w.heap.size w w' := by
  go_enter Tryd.func112, Tryd.ntmps112
  go_wp2_with fail
  go_call (implRectContains_any _ _ _ _ _ _ _ (hC.ext (by (repeat (first | (with_reducible exact Below.refl _ _) | (with_reducible refine Ext.drewN ?_ _) | (with_reducible refine Below.drew ?_) | (with_reducible refine Ext.alloc ?_ _) | (with_reducible refine Ext.setCell ?_ (by simp; try omega) _) | (with_reducible refine Ext.trans ?_ (by assumption)) | (with_reducible assumption) | exact Below.refl _ _))))) as e w1 ⟨rfl, bw1⟩
  obtain ⟨sw1, zw1, cw1, fw1⟩ := bcell bw1
  try simp only [World.size_alloc, World.size_setCell, World.size_drew] at sw1
  try have lw1_w_0 : w.heap.size < w1.heap.size := by omega
  try have lw1_w_1 : w.heap.size + 1 < w1.heap.size := by omega
  try have lw1_w_2 : w.heap.size + 1 + 1 < w1.heap.size := by omega
  try have lw1_w_3 : w.heap.size + 1 + 1 + 1 < w1.heap.size := by omega
  try have lw1_w_4 : w.heap.size + 1 + 1 + 1 + 1 < w1.heap.size := by omega
  try have lw1_w_5 : w.heap.size + 1 + 1 + 1 + 1 + 1 < w1.heap.size := by omega
  try have lw1_w_6 : w.heap.size + 1 + 1 + 1 + 1 + 1 + 1 < w1.heap.size := by omega
  go_wp2_with fail
  refine bodyPost_ret (v := .bool (rcB a b c d x y)) (by simp [*, results, Tryd.results112, go_sem]) rfl ⟨rfl, ?_⟩
  (repeat (first | (with_reducible exact Below.refl _ _) | (with_reducible refine Ext.drewN ?_ _) | (with_reducible refine Below.drew ?_) | (with_reducible refine Ext.alloc ?_ _) | (with_reducible refine Ext.setCell ?_ (by simp; try omega) _) | (with_reducible refine Ext.trans ?_ (by assumption)) | (with_reducible assumption) | exact Below.refl _ _))

set_option maxHeartbeats 4000000 in
theorem index_any (m : Option Addr) (n cap : Nat) (P Q R S : Nat → Int) (x y : Int) (gx gy : Nat) (w : World) (hC : ChipW w) (hn : n ≤ 1048576) (hR : RectsIs w.heap.size w m n P Q R S) (hv : ∀ i, i < n → rvB (P i) (Q i) (R i) (S i) = true) (hx : w.cell? ⟨gx, 0, none⟩ = some (.int .i64 x)) (hy : w.cell? ⟨gy, 0, none⟩ = some (.int .i64 y)) (lx : gx < w.heap.size) (ly : gy < w.heap.size) :
    Calls Tryd.prog 155 #[.slice m n cap, .func (.func 112) #[] #[.pointer (some ⟨gx, 0, none⟩), .pointer (some ⟨gy, 0, none⟩)]] w fun e w' => (∃ r : Int, e = .returned (.int .i64 r) ∧ decide (0 ≤ r) = covB P Q R S x y n) ∧ Below w.heap.size w w' := by
  go_enter Tryd.func155, Tryd.ntmps155
  go_wp2_with fail
  have HV := Lib.hid hv
  clear hv
  go_loopw [8] (fun s8 wr => ∃ i : Nat, i ≤ n ∧ s8 = .int .i64 (i : Nat) ∧ covB P Q R S x y i = false ∧ Below w.heap.size w wr) (fun s8 _ => n - (intOf s8).toNat)
  case atStart => exact ⟨0, by omega, rfl, rfl, Below.refl _ _⟩
  case round =>
    obtain ⟨i, hi, rfl, hno, hW⟩ := hrel
    by_cases hlt : i < n
    · obtain ⟨b1, o1, rfl, hb1, c0, c1, c2, c3⟩ := hR.below hW i hlt
      have q1 : ((i : Nat) : Int) < (n : Int) := by omega
      have q0 : (0 : Int) ≤ ((i : Nat) : Int) := by omega
      have sW := hW.size
      have hx' := (hW.cell (p := ⟨gx, 0, none⟩) lx).trans hx
      have hy' := (hW.cell (p := ⟨gy, 0, none⟩) ly).trans hy
      have hco : covB P Q R S x y (i + 1) = rcB (P i) (Q i) (R i) (S i) x y := by
        unfold rcB
        rw [covB, hno, HV.out i hlt, Bool.false_or, Bool.true_and, Bool.eq_iff_iff]
        simp only [Bool.and_eq_true, decide_eq_true_eq]
        omega
      have HCO := Lib.hid hco
      clear hco
      cases hr : rcB (P i) (Q i) (R i) (S i) x y with
      | false =>
        go_wp2_with (first | (go_at_call 112; refine (lit_any _ _ _ _ x y gx gy _ (hC.ext (by (repeat (first | (with_reducible exact Below.refl _ _) | (with_reducible refine Ext.drewN ?_ _) | (with_reducible refine Below.drew ?_) | (with_reducible refine Ext.alloc ?_ _) | (with_reducible refine Ext.setCell ?_ (by simp; try omega) _) | (with_reducible refine Ext.trans ?_ (by assumption)) | (with_reducible assumption) | exact Below.refl _ _)))) hx' hy' (by omega) (by omega)).mono ?_; rintro e v0 ⟨rfl, bv0⟩; rw [hr]))
        go_roundw
        case rel => exact ⟨i + 1, by omega, by go_num, by rw [HCO.out, hr], hW.trans (bv0.mono (by omega))⟩
        case measure => simp [intOf]; omega
      | true =>
        go_wp2_with (first | (go_at_call 112; refine (lit_any _ _ _ _ x y gx gy _ (hC.ext (by (repeat (first | (with_reducible exact Below.refl _ _) | (with_reducible refine Ext.drewN ?_ _) | (with_reducible refine Below.drew ?_) | (with_reducible refine Ext.alloc ?_ _) | (with_reducible refine Ext.setCell ?_ (by simp; try omega) _) | (with_reducible refine Ext.trans ?_ (by assumption)) | (with_reducible assumption) | exact Below.refl _ _)))) hx' hy' (by omega) (by omega)).mono ?_; rintro e v0 ⟨rfl, bv0⟩; rw [hr]))
        have hc : covB P Q R S x y n = true := by
          rw [covB_t]
          obtain ⟨j, hj, hh⟩ := covB_t.1 (HCO.out.trans hr)
          exact ⟨j, by omega, hh⟩
        refine bodyPost_ret (v := .int .i64 (i : Nat)) (by simp [*, results, Tryd.results155, go_sem]) rfl ⟨⟨_, rfl, by rw [hc]; simp⟩, ?_⟩
        exact hW.trans (bv0.mono (by omega))
    · have q1 : ¬ ((i : Nat) : Int) < (n : Int) := by omega
      obtain rfl : n = i := by omega
      go_wp2_with fail
      refine bodyPost_ret (v := .int .i64 (-1)) (by simp [*, results, Tryd.results155, go_sem]) rfl ⟨⟨_, rfl, by first | decide | (rw [hno]; decide)⟩, ?_⟩
      exact hW

set_option maxHeartbeats 4000000 in
theorem containsF_any (m : Option Addr) (n cap : Nat) (P Q R S : Nat → Int) (x y : Int) (gx gy : Nat) (w : World) (hC : ChipW w) (hn : n ≤ 1048576) (hR : RectsIs w.heap.size w m n P Q R S) (hv : ∀ i, i < n → rvB (P i) (Q i) (R i) (S i) = true) (hx : w.cell? ⟨gx, 0, none⟩ = some (.int .i64 x)) (hy : w.cell? ⟨gy, 0, none⟩ = some (.int .i64 y)) (lx : gx < w.heap.size) (ly : gy < w.heap.size) :
    Calls Tryd.prog 114 #[.slice m n cap, .func (.func 112) #[] #[.pointer (some ⟨gx, 0, none⟩), .pointer (some ⟨gy, 0, none⟩)]] w fun e w' => e = .returned (.bool (covB P Q R S x y n)) ∧ Below w.heap.size w w' := by
  go_enter Tryd.func114, Tryd.ntmps114
  go_wp2_with fail
  refine (index_any m n cap P Q R S x y gx gy _ hC hn hR hv hx hy lx ly).mono ?_
  rintro e w1 ⟨⟨r, rfl, hr⟩, bw1⟩
  have hr2 : (!decide (r < 0)) = covB P Q R S x y n := by rw [← hr, Bool.eq_iff_iff]; simp
  have HR2 := Lib.hid hr2
  have HR1 := Lib.hid hr
  clear hr hr2
  go_wp2_with fail
  refine bodyPost_ret (v := .bool (decide (0 ≤ r))) (by simp [*, results, Tryd.results114, go_sem]) rfl ⟨by rw [HR1.out], ?_⟩
  (repeat (first | (with_reducible exact Below.refl _ _) | (with_reducible refine Ext.drewN ?_ _) | (with_reducible refine Below.drew ?_) | (with_reducible refine Ext.alloc ?_ _) | (with_reducible refine Ext.setCell ?_ (by simp; try omega) _) | (with_reducible refine Ext.trans ?_ (by assumption)) | (with_reducible assumption) | exact Below.refl _ _))

set_option maxHeartbeats 4000000 in
theorem implRegionContains : ImplRegionContains := by
  intro m n cap P Q R S x y w hn hcap hD hR
  cases hok : okR P Q R S n with
  | false =>
    rw [Bool.false_and]
    go_enter Tryd.func63, Tryd.ntmps63
    go_wp2_with fail
    go_call (isRegion_any m n cap P Q R S _ hn hcap (hD.ext (by (repeat (first | (with_reducible exact Below.refl _ _) | (with_reducible refine Ext.drewN ?_ _) | (with_reducible refine Below.drew ?_) | (with_reducible refine Ext.alloc ?_ _) | (with_reducible refine Ext.setCell ?_ (by simp; try omega) _) | (with_reducible refine Ext.trans ?_ (by assumption)) | (with_reducible assumption) | exact Below.refl _ _)))) (hR.ext (by (repeat (first | (with_reducible exact Below.refl _ _) | (with_reducible refine Ext.drewN ?_ _) | (with_reducible refine Below.drew ?_) | (with_reducible refine Ext.alloc ?_ _) | (with_reducible refine Ext.setCell ?_ (by simp; try omega) _) | (with_reducible refine Ext.trans ?_ (by assumption)) | (with_reducible assumption) | exact Below.refl _ _))))) as e w1 ⟨rfl, bw1⟩
    obtain ⟨sw1, zw1, cw1, fw1⟩ := bcell bw1
    try simp only [World.size_alloc, World.size_setCell, World.size_drew] at sw1
    try have lw1_w_0 : w.heap.size < w1.heap.size := by omega
    try have lw1_w_1 : w.heap.size + 1 < w1.heap.size := by omega
    try have lw1_w_2 : w.heap.size + 1 + 1 < w1.heap.size := by omega
    try have lw1_w_3 : w.heap.size + 1 + 1 + 1 < w1.heap.size := by omega
    try have lw1_w_4 : w.heap.size + 1 + 1 + 1 + 1 < w1.heap.size := by omega
    try have lw1_w_5 : w.heap.size + 1 + 1 + 1 + 1 + 1 < w1.heap.size := by omega
    try have lw1_w_6 : w.heap.size + 1 + 1 + 1 + 1 + 1 + 1 < w1.heap.size := by omega
    rw [hok]
    go_wp2_with fail
    refine bodyPost_ret (v := .bool false) (by simp [*, results, Tryd.results63, go_sem]) rfl ⟨rfl, ?_⟩
    (repeat (first | (with_reducible exact Below.refl _ _) | (with_reducible refine Ext.drewN ?_ _) | (with_reducible refine Below.drew ?_) | (with_reducible refine Ext.alloc ?_ _) | (with_reducible refine Ext.setCell ?_ (by simp; try omega) _) | (with_reducible refine Ext.trans ?_ (by assumption)) | (with_reducible assumption) | exact Below.refl _ _))
  | true =>
    rw [Bool.true_and, hasB_cov (okR_all hok)]
    have HV := Lib.hid (okR_all hok)
    go_enter Tryd.func63, Tryd.ntmps63
    go_wp2_with fail
    go_call (isRegion_any m n cap P Q R S _ hn hcap (hD.ext (by (repeat (first | (with_reducible exact Below.refl _ _) | (with_reducible refine Ext.drewN ?_ _) | (with_reducible refine Below.drew ?_) | (with_reducible refine Ext.alloc ?_ _) | (with_reducible refine Ext.setCell ?_ (by simp; try omega) _) | (with_reducible refine Ext.trans ?_ (by assumption)) | (with_reducible assumption) | exact Below.refl _ _)))) (hR.ext (by (repeat (first | (with_reducible exact Below.refl _ _) | (with_reducible refine Ext.drewN ?_ _) | (with_reducible refine Below.drew ?_) | (with_reducible refine Ext.alloc ?_ _) | (with_reducible refine Ext.setCell ?_ (by simp; try omega) _) | (with_reducible refine Ext.trans ?_ (by assumption)) | (with_reducible assumption) | exact Below.refl _ _))))) as e w1 ⟨rfl, bw1⟩
    obtain ⟨sw1, zw1, cw1, fw1⟩ := bcell bw1
    try simp only [World.size_alloc, World.size_setCell, World.size_drew] at sw1
    try have lw1_w_0 : w.heap.size < w1.heap.size := by omega
    try have lw1_w_1 : w.heap.size + 1 < w1.heap.size := by omega
    try have lw1_w_2 : w.heap.size + 1 + 1 < w1.heap.size := by omega
    try have lw1_w_3 : w.heap.size + 1 + 1 + 1 < w1.heap.size := by omega
    try have lw1_w_4 : w.heap.size + 1 + 1 + 1 + 1 < w1.heap.size := by omega
    try have lw1_w_5 : w.heap.size + 1 + 1 + 1 + 1 + 1 < w1.heap.size := by omega
    try have lw1_w_6 : w.heap.size + 1 + 1 + 1 + 1 + 1 + 1 < w1.heap.size := by omega
    rw [hok]
    go_wp2_with fail
    go_call (containsF_any m n cap P Q R S x y _ _ _ (hD.chip.ext (by (repeat (first | (with_reducible exact Below.refl _ _) | (with_reducible refine Ext.drewN ?_ _) | (with_reducible refine Below.drew ?_) | (with_reducible refine Ext.alloc ?_ _) | (with_reducible refine Ext.setCell ?_ (by simp; try omega) _) | (with_reducible refine Ext.trans ?_ (by assumption)) | (with_reducible assumption) | exact Below.refl _ _)))) hn (hR.ext (by (repeat (first | (with_reducible exact Below.refl _ _) | (with_reducible refine Ext.drewN ?_ _) | (with_reducible refine Below.drew ?_) | (with_reducible refine Ext.alloc ?_ _) | (with_reducible refine Ext.setCell ?_ (by simp; try omega) _) | (with_reducible refine Ext.trans ?_ (by assumption)) | (with_reducible assumption) | exact Below.refl _ _)))) HV.out (by simp [*, go_sem]) (by simp [*, go_sem]) (by omega) (by omega)) as e w2 ⟨rfl, bw2⟩
    obtain ⟨sw2, zw2, cw2, fw2⟩ := bcell bw2
    try simp only [World.size_alloc, World.size_setCell, World.size_drew] at sw2
    try have lw2_w1_0 : w1.heap.size < w2.heap.size := by omega
    try have lw2_w1_1 : w1.heap.size + 1 < w2.heap.size := by omega
    try have lw2_w1_2 : w1.heap.size + 1 + 1 < w2.heap.size := by omega
    try have lw2_w1_3 : w1.heap.size + 1 + 1 + 1 < w2.heap.size := by omega
    try have lw2_w1_4 : w1.heap.size + 1 + 1 + 1 + 1 < w2.heap.size := by omega
    try have lw2_w1_5 : w1.heap.size + 1 + 1 + 1 + 1 + 1 < w2.heap.size := by omega
    try have lw2_w1_6 : w1.heap.size + 1 + 1 + 1 + 1 + 1 + 1 < w2.heap.size := by omega
    try have lw2_w_0 : w.heap.size < w2.heap.size := by omega
    try have lw2_w_1 : w.heap.size + 1 < w2.heap.size := by omega
    try have lw2_w_2 : w.heap.size + 1 + 1 < w2.heap.size := by omega
    try have lw2_w_3 : w.heap.size + 1 + 1 + 1 < w2.heap.size := by omega
    try have lw2_w_4 : w.heap.size + 1 + 1 + 1 + 1 < w2.heap.size := by omega
    try have lw2_w_5 : w.heap.size + 1 + 1 + 1 + 1 + 1 < w2.heap.size := by omega
    try have lw2_w_6 : w.heap.size + 1 + 1 + 1 + 1 + 1 + 1 < w2.heap.size := by omega
    go_wp2_with fail
    refine bodyPost_ret (v := .bool (covB P Q R S x y n)) (by simp [*, results, Tryd.results63, go_sem]) rfl ⟨rfl, ?_⟩
    (repeat (first | (with_reducible exact Below.refl _ _) | (with_reducible refine Ext.drewN ?_ _) | (with_reducible refine Below.drew ?_) | (with_reducible refine Ext.alloc ?_ _) | (with_reducible refine Ext.setCell ?_ (by simp; try omega) _) | (with_reducible refine Ext.trans ?_ (by assumption)) | (with_reducible assumption) | exact Below.refl _ _))

end Go.Proofs.YtfbalpkjcfdakaaDoor
