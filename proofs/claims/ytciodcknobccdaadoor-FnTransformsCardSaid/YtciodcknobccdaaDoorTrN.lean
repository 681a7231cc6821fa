/- ComposeTransforms: the program's. Condition: the variable orientationMatrices holds its table. -/
import Derived.Test.YtciodcknobccdaaDoorTrM
import Derived.Test.YtciodcknobccdaaDoorTtA
namespace Go.Proofs.YtciodcknobccdaaDoor
open Go.RowKit
set_option linter.unusedVariables false
set_option linter.unusedSimpArgs false
attribute [local go_sem ↓] Go.wp_at_zero Go.wp_at_succ

set_option maxHeartbeats 16000000 in
theorem implCT_out (o x y p q r : Int) (w : World) (hM : Mats w) : Calls Tryd.prog 18 #[.agg #[.int .i64 o, .int .i64 x, .int .i64 y], .agg #[.int .i64 p, .int .i64 q, .int .i64 r]] w fun e w' => e = .returned (.tuple #[.agg #[.int .i64 (ct0 o x y p q r), .int .i64 (ct1 o x y p q r), .int .i64 (ct2 o x y p q r)], .bool (ctB o x y p q r)]) ∧ Below w.heap.size w w' := by
  cases h1 : vldB o x y with
  | false =>
    obtain ⟨m0, m1, m2, m3⟩ := ct_no (o := o) (x := x) (y := y) (p := p) (q := q) (r := r) (by simp [ctB, h1])
    rw [m0, m1, m2, m3]
    clear m0 m1 m2 m3
    go_enter Tryd.func18, Tryd.ntmps18
    go_wp2_with fail
    go_call (implValid_any) as e w1 ⟨rfl, bw1⟩
    obtain ⟨sw1, zw1, cw1, fw1⟩ := bcell bw1
    try simp only [World.size_alloc, World.size_setCell, World.size_drew] at sw1
    try have lw1_w_0 : w.heap.size < w1.heap.size := by omega
    try have lw1_w_1 : w.heap.size + 1 < w1.heap.size := by omega
    try have lw1_w_2 : w.heap.size + 1 + 1 < w1.heap.size := by omega
    try have lw1_w_3 : w.heap.size + 1 + 1 + 1 < w1.heap.size := by omega
    try have lw1_w_4 : w.heap.size + 1 + 1 + 1 + 1 < w1.heap.size := by omega
    try have lw1_w_5 : w.heap.size + 1 + 1 + 1 + 1 + 1 < w1.heap.size := by omega
    try have lw1_w_6 : w.heap.size + 1 + 1 + 1 + 1 + 1 + 1 < w1.heap.size := by omega
    rw [h1]
    go_wp2_with fail
    refine bodyPost_ret (v := .tuple #[.agg #[.int .i64 0, .int .i64 0, .int .i64 0], .bool false]) (by simp [*, results, Tryd.results18, go_sem]) rfl ⟨rfl, ?_⟩
    (repeat (first | (with_reducible exact Below.refl _ _) | (with_reducible refine Ext.drewN ?_ _) | (with_reducible refine Below.drew ?_) | (with_reducible refine Ext.alloc ?_ _) | (with_reducible refine Ext.setCell ?_ (by simp; try omega) _) | (with_reducible refine Ext.trans ?_ (by assumption)) | (with_reducible assumption) | exact Below.refl _ _))
  | true =>
    cases h2 : vldB p q r with
    | false =>
      obtain ⟨m0, m1, m2, m3⟩ := ct_no (o := o) (x := x) (y := y) (p := p) (q := q) (r := r) (by simp [ctB, h1, h2])
      rw [m0, m1, m2, m3]
      clear m0 m1 m2 m3
      go_enter Tryd.func18, Tryd.ntmps18
      go_wp2_with fail
      go_call (implValid_any) as e w1 ⟨rfl, bw1⟩
      obtain ⟨sw1, zw1, cw1, fw1⟩ := bcell bw1
      try simp only [World.size_alloc, World.size_setCell, World.size_drew] at sw1
      try have lw1_w_0 : w.heap.size < w1.heap.size := by omega
      try have lw1_w_1 : w.heap.size + 1 < w1.heap.size := by omega
      try have lw1_w_2 : w.heap.size + 1 + 1 < w1.heap.size := by omega
      try have lw1_w_3 : w.heap.size + 1 + 1 + 1 < w1.heap.size := by omega
      try have lw1_w_4 : w.heap.size + 1 + 1 + 1 + 1 < w1.heap.size := by omega
      try have lw1_w_5 : w.heap.size + 1 + 1 + 1 + 1 + 1 < w1.heap.size := by omega
      try have lw1_w_6 : w.heap.size + 1 + 1 + 1 + 1 + 1 + 1 < w1.heap.size := by omega
      rw [h1]
      go_wp2_with fail
      go_call (implValid_any) as e w2 ⟨rfl, bw2⟩
      obtain ⟨sw2, zw2, cw2, fw2⟩ := bcell bw2
      try simp only [World.size_alloc, World.size_setCell, World.size_drew] at sw2
      try have lw2_w_0 : w.heap.size < w2.heap.size := by omega
      try have lw2_w_1 : w.heap.size + 1 < w2.heap.size := by omega
      try have lw2_w_2 : w.heap.size + 1 + 1 < w2.heap.size := by omega
      try have lw2_w_3 : w.heap.size + 1 + 1 + 1 < w2.heap.size := by omega
      try have lw2_w_4 : w.heap.size + 1 + 1 + 1 + 1 < w2.heap.size := by omega
      try have lw2_w_5 : w.heap.size + 1 + 1 + 1 + 1 + 1 < w2.heap.size := by omega
      try have lw2_w_6 : w.heap.size + 1 + 1 + 1 + 1 + 1 + 1 < w2.heap.size := by omega
      try have lw2_w1_0 : w1.heap.size < w2.heap.size := by omega
      try have lw2_w1_1 : w1.heap.size + 1 < w2.heap.size := by omega
      try have lw2_w1_2 : w1.heap.size + 1 + 1 < w2.heap.size := by omega
      try have lw2_w1_3 : w1.heap.size + 1 + 1 + 1 < w2.heap.size := by omega
      try have lw2_w1_4 : w1.heap.size + 1 + 1 + 1 + 1 < w2.heap.size := by omega
      try have lw2_w1_5 : w1.heap.size + 1 + 1 + 1 + 1 + 1 < w2.heap.size := by omega
      try have lw2_w1_6 : w1.heap.size + 1 + 1 + 1 + 1 + 1 + 1 < w2.heap.size := by omega
      rw [h2]
      go_wp2_with fail
      refine bodyPost_ret (v := .tuple #[.agg #[.int .i64 0, .int .i64 0, .int .i64 0], .bool false]) (by simp [*, results, Tryd.results18, go_sem]) rfl ⟨rfl, ?_⟩
      (repeat (first | (with_reducible exact Below.refl _ _) | (with_reducible refine Ext.drewN ?_ _) | (with_reducible refine Below.drew ?_) | (with_reducible refine Ext.alloc ?_ _) | (with_reducible refine Ext.setCell ?_ (by simp; try omega) _) | (with_reducible refine Ext.trans ?_ (by assumption)) | (with_reducible assumption) | exact Below.refl _ _))
    | true =>
      obtain ⟨⟨i1, i2⟩, ⟨i3, i4⟩, i5, i6⟩ := vldB_t h1
      obtain ⟨⟨j1, j2⟩, ⟨j3, j4⟩, j5, j6⟩ := vldB_t h2
      obtain ⟨n, rfl⟩ : ∃ n : Nat, o = (n : Int) := ⟨o.toNat, by omega⟩
      obtain ⟨m, rfl⟩ : ∃ m : Nat, p = (m : Int) := ⟨p.toNat, by omega⟩
      have hn8 : n < 8 := by omega
      have hm8 : m < 8 := by omega
      have hlt := cmpO_lt n m hn8 hm8
      obtain ⟨⟨t1, t2⟩, t3, t4⟩ := t_bd m x y 80 i3 i4 i5 i6
      cases h3 : vldB (cmpO n m : Nat) (tX m x y + q) (tY m x y + r) with
      | false =>
        obtain ⟨m0, m1, m2, m3⟩ := ct_no (o := n) (x := x) (y := y) (p := m) (q := q) (r := r) (by simp [ctB, h1, h2, h3])
        rw [m0, m1, m2, m3]
        clear m0 m1 m2 m3
        go_enter Tryd.func18, Tryd.ntmps18
        go_wp2_with (first | (go_at_call 55; refine (implValid_any _ _ _ _).mono ?_; rintro e w1 ⟨rfl, bw1⟩; obtain ⟨sw1, zw1, cw1, fw1⟩ := bcell bw1; (try simp only [World.size_alloc, World.size_setCell, World.size_drew] at sw1); (have jw100 : w.heap.size < w1.heap.size := by omega); (have jw101 : w.heap.size < w1.heap.size + 1 := by omega); (have jw110 : w.heap.size + 1 < w1.heap.size := by omega); (have jw111 : w.heap.size + 1 < w1.heap.size + 1 := by omega); (have jw120 : w.heap.size + 1 + 1 < w1.heap.size := by omega); (have jw121 : w.heap.size + 1 + 1 < w1.heap.size + 1 := by omega); (first | rw [h1] | rw [h2] | rw [h3])) | (go_at_call 56; refine (tThen_any n m x y q r _ hn8 hm8 (Mats.below hM (by (repeat (first | (with_reducible exact Below.refl _ _) | (with_reducible refine Ext.drewN ?_ _) | (with_reducible refine Below.drew ?_) | (with_reducible refine Ext.alloc ?_ _) | (with_reducible refine Ext.setCell ?_ (by simp; try omega) _) | (with_reducible refine Ext.trans ?_ (by assumption)) | (with_reducible assumption) | exact Below.refl _ _))) hM.size) (by omega) (by omega) (by omega) (by omega) (by omega) (by omega) (by omega) (by omega)).mono ?_; rintro e w3 ⟨rfl, bw3⟩; obtain ⟨sw3, zw3, cw3, fw3⟩ := bcell bw3; (try simp only [World.size_alloc, World.size_setCell, World.size_drew] at sw3); (have jw300 : w.heap.size < w3.heap.size := by omega); (have jw301 : w.heap.size < w3.heap.size + 1 := by omega); (have jw310 : w.heap.size + 1 < w3.heap.size := by omega); (have jw311 : w.heap.size + 1 < w3.heap.size + 1 := by omega); (have jw320 : w.heap.size + 1 + 1 < w3.heap.size := by omega); (have jw321 : w.heap.size + 1 + 1 < w3.heap.size + 1 := by omega)))
        refine bodyPost_ret (v := .tuple #[.agg #[.int .i64 0, .int .i64 0, .int .i64 0], .bool false]) (by simp [*, results, Tryd.results18, go_sem]) rfl ⟨rfl, ?_⟩
        (repeat (first | (with_reducible exact Below.refl _ _) | (with_reducible refine Ext.drewN ?_ _) | (with_reducible refine Below.drew ?_) | (with_reducible refine Ext.alloc ?_ _) | (with_reducible refine Ext.setCell ?_ (by simp; try omega) _) | (with_reducible refine Ext.trans ?_ (by assumption)) | (with_reducible assumption) | exact Below.refl _ _))
      | true =>
        obtain ⟨m0, m1, m2, m3⟩ := ct_yes (o := n) (x := x) (y := y) (p := m) (q := q) (r := r) (by simp [ctB, h1, h2, h3])
        rw [m0, m1, m2, m3]
        clear m0 m1 m2 m3
        go_enter Tryd.func18, Tryd.ntmps18
        go_wp2_with (first | (go_at_call 55; refine (implValid_any _ _ _ _).mono ?_; rintro e w1 ⟨rfl, bw1⟩; obtain ⟨sw1, zw1, cw1, fw1⟩ := bcell bw1; (try simp only [World.size_alloc, World.size_setCell, World.size_drew] at sw1); (have jw100 : w.heap.size < w1.heap.size := by omega); (have jw101 : w.heap.size < w1.heap.size + 1 := by omega); (have jw110 : w.heap.size + 1 < w1.heap.size := by omega); (have jw111 : w.heap.size + 1 < w1.heap.size + 1 := by omega); (have jw120 : w.heap.size + 1 + 1 < w1.heap.size := by omega); (have jw121 : w.heap.size + 1 + 1 < w1.heap.size + 1 := by omega); (first | rw [h1] | rw [h2] | rw [h3])) | (go_at_call 56; refine (tThen_any n m x y q r _ hn8 hm8 (Mats.below hM (by (repeat (first | (with_reducible exact Below.refl _ _) | (with_reducible refine Ext.drewN ?_ _) | (with_reducible refine Below.drew ?_) | (with_reducible refine Ext.alloc ?_ _) | (with_reducible refine Ext.setCell ?_ (by simp; try omega) _) | (with_reducible refine Ext.trans ?_ (by assumption)) | (with_reducible assumption) | exact Below.refl _ _))) hM.size) (by omega) (by omega) (by omega) (by omega) (by omega) (by omega) (by omega) (by omega)).mono ?_; rintro e w3 ⟨rfl, bw3⟩; obtain ⟨sw3, zw3, cw3, fw3⟩ := bcell bw3; (try simp only [World.size_alloc, World.size_setCell, World.size_drew] at sw3); (have jw300 : w.heap.size < w3.heap.size := by omega); (have jw301 : w.heap.size < w3.heap.size + 1 := by omega); (have jw310 : w.heap.size + 1 < w3.heap.size := by omega); (have jw311 : w.heap.size + 1 < w3.heap.size + 1 := by omega); (have jw320 : w.heap.size + 1 + 1 < w3.heap.size := by omega); (have jw321 : w.heap.size + 1 + 1 < w3.heap.size + 1 := by omega)))
        refine bodyPost_ret (v := .tuple #[.agg #[.int .i64 (cmpO n m : Nat), .int .i64 (tX m x y + q), .int .i64 (tY m x y + r)], .bool true]) (by simp [*, results, Tryd.results18, go_sem]) rfl ⟨rfl, ?_⟩
        (repeat (first | (with_reducible exact Below.refl _ _) | (with_reducible refine Ext.drewN ?_ _) | (with_reducible refine Below.drew ?_) | (with_reducible refine Ext.alloc ?_ _) | (with_reducible refine Ext.setCell ?_ (by simp; try omega) _) | (with_reducible refine Ext.trans ?_ (by assumption)) | (with_reducible assumption) | exact Below.refl _ _))
end Go.Proofs.YtciodcknobccdaaDoor
