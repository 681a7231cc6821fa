/- ComposeTransforms: the model's and the program's. Condition: the variable orientationMatrices holds its table. -/
import Derived.Test.YtciodcknobccdaaDoorTrH
import Derived.Test.YtciodcknobccdaaDoorTrK
namespace Go.Proofs.YtciodcknobccdaaDoor
open Go.RowKit
set_option linter.unusedVariables false
set_option linter.unusedSimpArgs false
attribute [local go_sem ↓] Go.wp_at_zero Go.wp_at_succ

def ctB (o x y p q r : Int) : Bool := vldB o x y && vldB p q r && vldB (cmpO o.toNat p.toNat : Nat) (tX p x y + q) (tY p x y + r)
def ct0 (o x y p q r : Int) : Int := if ctB o x y p q r = true then (cmpO o.toNat p.toNat : Nat) else 0
def ct1 (o x y p q r : Int) : Int := if ctB o x y p q r = true then tX p x y + q else 0
def ct2 (o x y p q r : Int) : Int := if ctB o x y p q r = true then tY p x y + r else 0
theorem ct_yes {o x y p q r : Int} (h : ctB o x y p q r = true) : ct0 o x y p q r = (cmpO o.toNat p.toNat : Nat) ∧ ct1 o x y p q r = tX p x y + q ∧ ct2 o x y p q r = tY p x y + r ∧ ctB o x y p q r = true := by
  simp [ct0, ct1, ct2, h]
theorem ct_no {o x y p q r : Int} (h : ctB o x y p q r = false) : ct0 o x y p q r = 0 ∧ ct1 o x y p q r = 0 ∧ ct2 o x y p q r = 0 ∧ ctB o x y p q r = false := by
  simp [ct0, ct1, ct2, h]

set_option maxHeartbeats 16000000 in
theorem specCT_out (o x y p q r : Int) (w : World) : Calls Tryd.prog 17 #[.agg #[.int .i64 o, .int .i64 x, .int .i64 y], .agg #[.int .i64 p, .int .i64 q, .int .i64 r]] w fun e w' => e = .returned (.tuple #[.agg #[.int .i64 (ct0 o x y p q r), .int .i64 (ct1 o x y p q r), .int .i64 (ct2 o x y p q r)], .bool (ctB o x y p q r)]) ∧ Below w.heap.size w w' := by
  cases h1 : vldB o x y with
  | false =>
    obtain ⟨m0, m1, m2, m3⟩ := ct_no (o := o) (x := x) (y := y) (p := p) (q := q) (r := r) (by simp [ctB, h1])
    rw [m0, m1, m2, m3]
    clear m0 m1 m2 m3
    go_enter Tryd.func17, Tryd.ntmps17
    go_wp2_with fail
    go_call (specValid_any) as e w1 ⟨rfl, bw1⟩
    obtain ⟨sw1, zw1, cw1, fw1⟩ := bcell bw1
    try simp only [World.size_alloc, World.size_setCell, World.size_drew] at sw1
    try have lw1_w_0 : w.heap.size < w1.heap.size := by omega
    try have lw1_w_1 : w.heap.size + 1 < w1.heap.size := by omega
    try have lw1_w_2 : w.heap.size + 1 + 1 < w1.heap.size := by omega
    try have lw1_w_3 : w.heap.size + 1 + 1 + 1 < w1.heap.size := by omega
    try have lw1_w_4 : w.heap.size + 1 + 1 + 1 + 1 < w1.heap.size := by omega
    try have lw1_w_5 : w.heap.size + 1 + 1 + 1 + 1 + 1 < w1.heap.size := by omega
    try have lw1_w_6 : w.heap.size + 1 + 1 + 1 + 1 + 1 + 1 < w1.heap.size := by omega
    rw [h1]
    go_wp2_with fail
    refine bodyPost_ret (v := .tuple #[.agg #[.int .i64 0, .int .i64 0, .int .i64 0], .bool false]) (by simp [*, results, Tryd.results17, go_sem]) rfl ⟨rfl, ?_⟩
    (repeat (first | (with_reducible exact Below.refl _ _) | (with_reducible refine Ext.drewN ?_ _) | (with_reducible refine Below.drew ?_) | (with_reducible refine Ext.alloc ?_ _) | (with_reducible refine Ext.setCell ?_ (by simp; try omega) _) | (with_reducible refine Ext.trans ?_ (by assumption)) | (with_reducible assumption) | exact Below.refl _ _))
  | true =>
    cases h2 : vldB p q r with
    | false =>
      obtain ⟨m0, m1, m2, m3⟩ := ct_no (o := o) (x := x) (y := y) (p := p) (q := q) (r := r) (by simp [ctB, h1, h2])
      rw [m0, m1, m2, m3]
      clear m0 m1 m2 m3
      go_enter Tryd.func17, Tryd.ntmps17
      go_wp2_with fail
      go_call (specValid_any) as e w1 ⟨rfl, bw1⟩
      obtain ⟨sw1, zw1, cw1, fw1⟩ := bcell bw1
      try simp only [World.size_alloc, World.size_setCell, World.size_drew] at sw1
      try have lw1_w_0 : w.heap.size < w1.heap.size := by omega
      try have lw1_w_1 : w.heap.size + 1 < w1.heap.size := by omega
      try have lw1_w_2 : w.heap.size + 1 + 1 < w1.heap.size := by omega
      try have lw1_w_3 : w.heap.size + 1 + 1 + 1 < w1.heap.size := by omega
      try have lw1_w_4 : w.heap.size + 1 + 1 + 1 + 1 < w1.heap.size := by omega
      try have lw1_w_5 : w.heap.size + 1 + 1 + 1 + 1 + 1 < w1.heap.size := by omega
      try have lw1_w_6 : w.heap.size + 1 + 1 + 1 + 1 + 1 + 1 < w1.heap.size := by omega
      rw [h1]
      go_wp2_with fail
      go_call (specValid_any) as e w2 ⟨rfl, bw2⟩
      obtain ⟨sw2, zw2, cw2, fw2⟩ := bcell bw2
      try simp only [World.size_alloc, World.size_setCell, World.size_drew] at sw2
      try have lw2_w_0 : w.heap.size < w2.heap.size := by omega
      try have lw2_w_1 : w.heap.size + 1 < w2.heap.size := by omega
      try have lw2_w_2 : w.heap.size + 1 + 1 < w2.heap.size := by omega
      try have lw2_w_3 : w.heap.size + 1 + 1 + 1 < w2.heap.size := by omega
      try have lw2_w_4 : w.heap.size + 1 + 1 + 1 + 1 < w2.heap.size := by omega
      try have lw2_w_5 : w.heap.size + 1 + 1 + 1 + 1 + 1 < w2.heap.size := by omega
      try have lw2_w_6 : w.heap.size + 1 + 1 + 1 + 1 + 1 + 1 < w2.heap.size := by omega
      try have lw2_w1_0 : w1.heap.size < w2.heap.size := by omega
      try have lw2_w1_1 : w1.heap.size + 1 < w2.heap.size := by omega
      try have lw2_w1_2 : w1.heap.size + 1 + 1 < w2.heap.size := by omega
      try have lw2_w1_3 : w1.heap.size + 1 + 1 + 1 < w2.heap.size := by omega
      try have lw2_w1_4 : w1.heap.size + 1 + 1 + 1 + 1 < w2.heap.size := by omega
      try have lw2_w1_5 : w1.heap.size + 1 + 1 + 1 + 1 + 1 < w2.heap.size := by omega
      try have lw2_w1_6 : w1.heap.size + 1 + 1 + 1 + 1 + 1 + 1 < w2.heap.size := by omega
      rw [h2]
      go_wp2_with fail
      refine bodyPost_ret (v := .tuple #[.agg #[.int .i64 0, .int .i64 0, .int .i64 0], .bool false]) (by simp [*, results, Tryd.results17, go_sem]) rfl ⟨rfl, ?_⟩
      (repeat (first | (with_reducible exact Below.refl _ _) | (with_reducible refine Ext.drewN ?_ _) | (with_reducible refine Below.drew ?_) | (with_reducible refine Ext.alloc ?_ _) | (with_reducible refine Ext.setCell ?_ (by simp; try omega) _) | (with_reducible refine Ext.trans ?_ (by assumption)) | (with_reducible assumption) | exact Below.refl _ _))
    | true =>
      obtain ⟨⟨i1, i2⟩, ⟨i3, i4⟩, i5, i6⟩ := vldB_t h1
      obtain ⟨⟨j1, j2⟩, ⟨j3, j4⟩, j5, j6⟩ := vldB_t h2
      obtain ⟨n, rfl⟩ : ∃ n : Nat, o = (n : Int) := ⟨o.toNat, by omega⟩
      obtain ⟨m, rfl⟩ : ∃ m : Nat, p = (m : Int) := ⟨p.toNat, by omega⟩
      have hn8 : n < 8 := by omega
      have hm8 : m < 8 := by omega
      have hlt := cmpO_lt n m hn8 hm8
      obtain ⟨⟨t1, t2⟩, t3, t4⟩ := t_bd m x y 80 i3 i4 i5 i6
      cases h3 : vldB (cmpO n m : Nat) (tX m x y + q) (tY m x y + r) with
      | false =>
        obtain ⟨m0, m1, m2, m3⟩ := ct_no (o := n) (x := x) (y := y) (p := m) (q := q) (r := r) (by simp [ctB, h1, h2, h3])
        rw [m0, m1, m2, m3]
        clear m0 m1 m2 m3
        go_enter Tryd.func17, Tryd.ntmps17
        go_wp2_with fail
        go_call (specValid_any) as e w1 ⟨rfl, bw1⟩
        obtain ⟨sw1, zw1, cw1, fw1⟩ := bcell bw1
        try simp only [World.size_alloc, World.size_setCell, World.size_drew] at sw1
        try have lw1_w_0 : w.heap.size < w1.heap.size := by omega
        try have lw1_w_1 : w.heap.size + 1 < w1.heap.size := by omega
        try have lw1_w_2 : w.heap.size + 1 + 1 < w1.heap.size := by omega
        try have lw1_w_3 : w.heap.size + 1 + 1 + 1 < w1.heap.size := by omega
        try have lw1_w_4 : w.heap.size + 1 + 1 + 1 + 1 < w1.heap.size := by omega
        try have lw1_w_5 : w.heap.size + 1 + 1 + 1 + 1 + 1 < w1.heap.size := by omega
        try have lw1_w_6 : w.heap.size + 1 + 1 + 1 + 1 + 1 + 1 < w1.heap.size := by omega
        rw [h1]
        go_wp2_with fail
        go_call (specValid_any) as e w2 ⟨rfl, bw2⟩
        obtain ⟨sw2, zw2, cw2, fw2⟩ := bcell bw2
        try simp only [World.size_alloc, World.size_setCell, World.size_drew] at sw2
        try have lw2_w_0 : w.heap.size < w2.heap.size := by omega
        try have lw2_w_1 : w.heap.size + 1 < w2.heap.size := by omega
        try have lw2_w_2 : w.heap.size + 1 + 1 < w2.heap.size := by omega
        try have lw2_w_3 : w.heap.size + 1 + 1 + 1 < w2.heap.size := by omega
        try have lw2_w_4 : w.heap.size + 1 + 1 + 1 + 1 < w2.heap.size := by omega
        try have lw2_w_5 : w.heap.size + 1 + 1 + 1 + 1 + 1 < w2.heap.size := by omega
        try have lw2_w_6 : w.heap.size + 1 + 1 + 1 + 1 + 1 + 1 < w2.heap.size := by omega
        try have lw2_w1_0 : w1.heap.size < w2.heap.size := by omega
        try have lw2_w1_1 : w1.heap.size + 1 < w2.heap.size := by omega
        try have lw2_w1_2 : w1.heap.size + 1 + 1 < w2.heap.size := by omega
        try have lw2_w1_3 : w1.heap.size + 1 + 1 + 1 < w2.heap.size := by omega
        try have lw2_w1_4 : w1.heap.size + 1 + 1 + 1 + 1 < w2.heap.size := by omega
        try have lw2_w1_5 : w1.heap.size + 1 + 1 + 1 + 1 + 1 < w2.heap.size := by omega
        try have lw2_w1_6 : w1.heap.size + 1 + 1 + 1 + 1 + 1 + 1 < w2.heap.size := by omega
        rw [h2]
        go_wp2_with fail
        go_call (l01Move_any) as e w3 ⟨rfl, bw3⟩
        obtain ⟨sw3, zw3, cw3, fw3⟩ := bcell bw3
        try simp only [World.size_alloc, World.size_setCell, World.size_drew] at sw3
        try have lw3_w_0 : w.heap.size < w3.heap.size := by omega
        try have lw3_w_1 : w.heap.size + 1 < w3.heap.size := by omega
        try have lw3_w_2 : w.heap.size + 1 + 1 < w3.heap.size := by omega
        try have lw3_w_3 : w.heap.size + 1 + 1 + 1 < w3.heap.size := by omega
        try have lw3_w_4 : w.heap.size + 1 + 1 + 1 + 1 < w3.heap.size := by omega
        try have lw3_w_5 : w.heap.size + 1 + 1 + 1 + 1 + 1 < w3.heap.size := by omega
        try have lw3_w_6 : w.heap.size + 1 + 1 + 1 + 1 + 1 + 1 < w3.heap.size := by omega
        try have lw3_w1_0 : w1.heap.size < w3.heap.size := by omega
        try have lw3_w1_1 : w1.heap.size + 1 < w3.heap.size := by omega
        try have lw3_w1_2 : w1.heap.size + 1 + 1 < w3.heap.size := by omega
        try have lw3_w1_3 : w1.heap.size + 1 + 1 + 1 < w3.heap.size := by omega
        try have lw3_w1_4 : w1.heap.size + 1 + 1 + 1 + 1 < w3.heap.size := by omega
        try have lw3_w1_5 : w1.heap.size + 1 + 1 + 1 + 1 + 1 < w3.heap.size := by omega
        try have lw3_w1_6 : w1.heap.size + 1 + 1 + 1 + 1 + 1 + 1 < w3.heap.size := by omega
        try have lw3_w2_0 : w2.heap.size < w3.heap.size := by omega
        try have lw3_w2_1 : w2.heap.size + 1 < w3.heap.size := by omega
        try have lw3_w2_2 : w2.heap.size + 1 + 1 < w3.heap.size := by omega
        try have lw3_w2_3 : w2.heap.size + 1 + 1 + 1 < w3.heap.size := by omega
        try have lw3_w2_4 : w2.heap.size + 1 + 1 + 1 + 1 < w3.heap.size := by omega
        try have lw3_w2_5 : w2.heap.size + 1 + 1 + 1 + 1 + 1 < w3.heap.size := by omega
        try have lw3_w2_6 : w2.heap.size + 1 + 1 + 1 + 1 + 1 + 1 < w3.heap.size := by omega
        go_upto_region 4 with fail
        have y0 : w3.cell? ⟨w.heap.size, 0, none⟩ = some (.int .i64 n) := by simp [*, go_sem]
        have y1 : w3.cell? ⟨w.heap.size, 1, none⟩ = some (.int .i64 x) := by simp [*, go_sem]
        have y2 : w3.cell? ⟨w.heap.size, 2, none⟩ = some (.int .i64 y) := by simp [*, go_sem]
        have y3 : w3.cell? ⟨w.heap.size + 1, 0, none⟩ = some (.int .i64 m) := by simp [*, go_sem]
        have y4 : w3.cell? ⟨w.heap.size + 1, 1, none⟩ = some (.int .i64 q) := by simp [*, go_sem]
        have y5 : w3.cell? ⟨w.heap.size + 1, 2, none⟩ = some (.int .i64 r) := by simp [*, go_sem]
        have y6 : w3.cell? ⟨w.heap.size + 1 + 1, 0, none⟩ = some (.int .i64 0) := by simp [*, go_sem]
        have y7 : w3.cell? ⟨w.heap.size + 1 + 1, 1, none⟩ = some (.int .i64 0) := by simp [*, go_sem]
        have y8 : w3.cell? ⟨w.heap.size + 1 + 1, 2, none⟩ = some (.int .i64 0) := by simp [*, go_sem]
        have f0 : w3.frozen? ⟨w.heap.size + 1 + 1, 0, none⟩ = false := by simp [*, go_sem]
        have f1 : w3.frozen? ⟨w.heap.size + 1 + 1, 1, none⟩ = false := by simp [*, go_sem]
        have f2 : w3.frozen? ⟨w.heap.size + 1 + 1, 2, none⟩ = false := by simp [*, go_sem]
        have B3 : Below w.heap.size w w3 := by (repeat (first | (with_reducible exact Below.refl _ _) | (with_reducible refine Ext.drewN ?_ _) | (with_reducible refine Below.drew ?_) | (with_reducible refine Ext.alloc ?_ _) | (with_reducible refine Ext.setCell ?_ (by simp; try omega) _) | (with_reducible refine Ext.trans ?_ (by assumption)) | (with_reducible assumption) | exact Below.refl _ _))
        clear bw1 zw1 cw1 fw1 bw2 zw2 cw2 fw2 bw3 zw3 cw3 fw3
        go_cut [7] (fun s7 wx => ∃ g : Nat, s7 = .pointer (some ⟨g, 0, none⟩) ∧ w3.heap.size < g ∧ g < wx.heap.size ∧ wx.cell? ⟨g, 0, none⟩ = some (.int .i64 (cmpO n m : Nat)) ∧ wx.cell? ⟨g, 1, none⟩ = some (.int .i64 (tX m x y + q)) ∧ wx.cell? ⟨g, 2, none⟩ = some (.int .i64 (tY m x y + r)) ∧ Below (w3.alloc (.cells #[.int .i64 (tX m x y + q), .int .i64 (tY m x y + r)] 44)).heap.size (w3.alloc (.cells #[.int .i64 (tX m x y + q), .int .i64 (tY m x y + r)] 44)) wx)
        case first =>
          go_region_held3 (fun w' => w3.heap.size < w'.heap.size ∧ Below w.heap.size w w' ∧ w'.cell? ⟨w.heap.size, 0, none⟩ = some (.int .i64 n) ∧ w'.cell? ⟨w.heap.size, 1, none⟩ = some (.int .i64 x) ∧ w'.cell? ⟨w.heap.size, 2, none⟩ = some (.int .i64 y) ∧ w'.cell? ⟨w.heap.size + 1, 0, none⟩ = some (.int .i64 m) ∧ w'.cell? ⟨w.heap.size + 1, 1, none⟩ = some (.int .i64 q) ∧ w'.cell? ⟨w.heap.size + 1, 2, none⟩ = some (.int .i64 r) ∧ w'.cell? ⟨w3.heap.size, 0, none⟩ = some (.int .i64 (tX m x y + q)) ∧ w'.cell? ⟨w3.heap.size, 1, none⟩ = some (.int .i64 (tY m x y + r)))
            (first | ((try dsimp only); go_split_ands; (repeat' (with_reducible refine And.intro ?_ ?_)) <;> first | ((repeat (with_reducible refine keepS ?_ (by simp; try omega) _)); (first | (with_reducible assumption) | (with_reducible exact keepC (by assumption) (by assumption)) | (with_reducible exact keepA (by assumption) _) | (with_reducible exact keepR (by assumption) (by omega) _))) | ((try simp only [World.size_alloc, World.size_setCell, World.size_drew]); omega) | (refine Mats.below hM ?_ hM.size; (repeat (first | (with_reducible exact Below.refl _ _) | (with_reducible refine Ext.drewN ?_ _) | (with_reducible refine Below.drew ?_) | (with_reducible refine Ext.alloc ?_ _) | (with_reducible refine Ext.setCell ?_ (by simp; try omega) _) | (with_reducible refine Ext.trans ?_ (by assumption)) | (with_reducible assumption) | exact Below.refl _ _)); done) | ((repeat (first | (with_reducible exact Below.refl _ _) | (with_reducible refine Ext.drewN ?_ _) | (with_reducible refine Below.drew ?_) | (with_reducible refine Ext.alloc ?_ _) | (with_reducible refine Ext.setCell ?_ (by simp; try omega) _) | (with_reducible refine Ext.trans ?_ (by assumption)) | (with_reducible assumption) | exact Below.refl _ _)); done) | (go_keep; done)))
            (first | (go_at_call 54; refine (l01Same_any n m _ hn8 hm8).mono ?_; rintro e v1 ⟨rfl, bv1⟩; obtain ⟨sv1, zv1, cv1, fv1⟩ := bcell bv1; (try simp only [World.size_alloc, World.size_setCell, World.size_drew] at sv1); (try have nv1_w3_0 : w3.heap.size < v1.heap.size := by omega); (try have nv1_w3_1 : w3.heap.size + 1 < v1.heap.size := by omega); (try have nv1_w3_2 : w3.heap.size + 1 + 1 < v1.heap.size := by omega); (try have nv1_w3_3 : w3.heap.size + 1 + 1 + 1 < v1.heap.size := by omega); (try have nv1_w3_4 : w3.heap.size + 1 + 1 + 1 + 1 < v1.heap.size := by omega); (try have nv1_w3_5 : w3.heap.size + 1 + 1 + 1 + 1 + 1 < v1.heap.size := by omega)))
          all_goals
            go_wp2_with fail
            go_meet
            refine ⟨_, rfl, ?_, ?_, ?_, ?_, ?_, ?_⟩
            · (try simp only [World.size_alloc, World.size_setCell, World.size_drew]); omega
            · (try simp only [World.size_alloc, World.size_setCell, World.size_drew]); omega
            · first | (simp [go_sem]; done) | (refine (set3_0 (u0 := .int .i64 0) (u1 := .int .i64 0) (u2 := .int .i64 0) ?_ ?_ ?_) <;> ((repeat (with_reducible refine keepC (by assumption) ?_)); simp [go_sem]))
            · first | (simp [go_sem]; done) | (refine (set3_1 (u0 := .int .i64 0) (u1 := .int .i64 0) (u2 := .int .i64 0) ?_ ?_ ?_) <;> ((repeat (with_reducible refine keepC (by assumption) ?_)); simp [go_sem]))
            · first | (simp [go_sem]; done) | (refine (set3_2 (u0 := .int .i64 0) (u1 := .int .i64 0) (u2 := .int .i64 0) ?_ ?_ ?_) <;> ((repeat (with_reducible refine keepC (by assumption) ?_)); simp [go_sem]))
            · (repeat (first | (with_reducible exact Below.refl _ _) | (with_reducible refine Ext.drewN ?_ _) | (with_reducible refine Below.drew ?_) | (with_reducible refine Ext.alloc ?_ _) | (with_reducible refine Ext.setCell ?_ (by simp; try omega) _) | (with_reducible refine Ext.trans ?_ (by assumption)) | (with_reducible assumption) | exact Below.refl _ _))
        case rest =>
          obtain ⟨g, rfl, q1, q2, x0, x1, x2, bw4⟩ := hcut
          obtain ⟨sw4, zw4, cw4, fw4⟩ := bcell bw4; (try simp only [World.size_alloc, World.size_setCell, World.size_drew] at sw4)
          have k0 : w.heap.size + 1 + 1 < w3.heap.size := by omega
          go_wp2_with fail
          go_call (specValid_any) as e w5 ⟨rfl, bw5⟩
          obtain ⟨sw5, zw5, cw5, fw5⟩ := bcell bw5
          try simp only [World.size_alloc, World.size_setCell, World.size_drew] at sw5
          try have lw5_w_0 : w.heap.size < w5.heap.size := by omega
          try have lw5_w_1 : w.heap.size + 1 < w5.heap.size := by omega
          try have lw5_w_2 : w.heap.size + 1 + 1 < w5.heap.size := by omega
          try have lw5_w_3 : w.heap.size + 1 + 1 + 1 < w5.heap.size := by omega
          try have lw5_w_4 : w.heap.size + 1 + 1 + 1 + 1 < w5.heap.size := by omega
          try have lw5_w_5 : w.heap.size + 1 + 1 + 1 + 1 + 1 < w5.heap.size := by omega
          try have lw5_w_6 : w.heap.size + 1 + 1 + 1 + 1 + 1 + 1 < w5.heap.size := by omega
          try have lw5_wc_0 : wc.heap.size < w5.heap.size := by omega
          try have lw5_wc_1 : wc.heap.size + 1 < w5.heap.size := by omega
          try have lw5_wc_2 : wc.heap.size + 1 + 1 < w5.heap.size := by omega
          try have lw5_wc_3 : wc.heap.size + 1 + 1 + 1 < w5.heap.size := by omega
          try have lw5_wc_4 : wc.heap.size + 1 + 1 + 1 + 1 < w5.heap.size := by omega
          try have lw5_wc_5 : wc.heap.size + 1 + 1 + 1 + 1 + 1 < w5.heap.size := by omega
          try have lw5_wc_6 : wc.heap.size + 1 + 1 + 1 + 1 + 1 + 1 < w5.heap.size := by omega
          try have lw5_w3_0 : w3.heap.size < w5.heap.size := by omega
          try have lw5_w3_1 : w3.heap.size + 1 < w5.heap.size := by omega
          try have lw5_w3_2 : w3.heap.size + 1 + 1 < w5.heap.size := by omega
          try have lw5_w3_3 : w3.heap.size + 1 + 1 + 1 < w5.heap.size := by omega
          try have lw5_w3_4 : w3.heap.size + 1 + 1 + 1 + 1 < w5.heap.size := by omega
          try have lw5_w3_5 : w3.heap.size + 1 + 1 + 1 + 1 + 1 < w5.heap.size := by omega
          try have lw5_w3_6 : w3.heap.size + 1 + 1 + 1 + 1 + 1 + 1 < w5.heap.size := by omega
          have k1 : w5.cell? ⟨g, 0, none⟩ = some (.int .i64 (cmpO n m : Nat)) := keepC bw5 x0
          have k2 := keepC bw5 x1
          have k3 := keepC bw5 x2
          have e6 := keepC bw5 (keepC bw4 (keepA y6 _))
          have e7 := keepC bw5 (keepC bw4 (keepA y7 _))
          have e8 := keepC bw5 (keepC bw4 (keepA y8 _))
          rw [h3]
          go_wp2_with fail
          refine bodyPost_ret (v := .tuple #[.agg #[.int .i64 0, .int .i64 0, .int .i64 0], .bool false]) (by simp [*, results, Tryd.results17, go_sem]) rfl ⟨rfl, ?_⟩
          (repeat (first | (with_reducible exact Below.refl _ _) | (with_reducible refine Ext.drewN ?_ _) | (with_reducible refine Below.drew ?_) | (with_reducible refine Ext.alloc ?_ _) | (with_reducible refine Ext.setCell ?_ (by simp; try omega) _) | (with_reducible refine Ext.trans ?_ (by assumption)) | (with_reducible assumption) | exact Below.refl _ _))
      | true =>
        obtain ⟨m0, m1, m2, m3⟩ := ct_yes (o := n) (x := x) (y := y) (p := m) (q := q) (r := r) (by simp [ctB, h1, h2, h3])
        rw [m0, m1, m2, m3]
        clear m0 m1 m2 m3
        go_enter Tryd.func17, Tryd.ntmps17
        go_wp2_with fail
        go_call (specValid_any) as e w1 ⟨rfl, bw1⟩
        obtain ⟨sw1, zw1, cw1, fw1⟩ := bcell bw1
        try simp only [World.size_alloc, World.size_setCell, World.size_drew] at sw1
        try have lw1_w_0 : w.heap.size < w1.heap.size := by omega
        try have lw1_w_1 : w.heap.size + 1 < w1.heap.size := by omega
        try have lw1_w_2 : w.heap.size + 1 + 1 < w1.heap.size := by omega
        try have lw1_w_3 : w.heap.size + 1 + 1 + 1 < w1.heap.size := by omega
        try have lw1_w_4 : w.heap.size + 1 + 1 + 1 + 1 < w1.heap.size := by omega
        try have lw1_w_5 : w.heap.size + 1 + 1 + 1 + 1 + 1 < w1.heap.size := by omega
        try have lw1_w_6 : w.heap.size + 1 + 1 + 1 + 1 + 1 + 1 < w1.heap.size := by omega
        rw [h1]
        go_wp2_with fail
        go_call (specValid_any) as e w2 ⟨rfl, bw2⟩
        obtain ⟨sw2, zw2, cw2, fw2⟩ := bcell bw2
        try simp only [World.size_alloc, World.size_setCell, World.size_drew] at sw2
        try have lw2_w_0 : w.heap.size < w2.heap.size := by omega
        try have lw2_w_1 : w.heap.size + 1 < w2.heap.size := by omega
        try have lw2_w_2 : w.heap.size + 1 + 1 < w2.heap.size := by omega
        try have lw2_w_3 : w.heap.size + 1 + 1 + 1 < w2.heap.size := by omega
        try have lw2_w_4 : w.heap.size + 1 + 1 + 1 + 1 < w2.heap.size := by omega
        try have lw2_w_5 : w.heap.size + 1 + 1 + 1 + 1 + 1 < w2.heap.size := by omega
        try have lw2_w_6 : w.heap.size + 1 + 1 + 1 + 1 + 1 + 1 < w2.heap.size := by omega
        try have lw2_w1_0 : w1.heap.size < w2.heap.size := by omega
        try have lw2_w1_1 : w1.heap.size + 1 < w2.heap.size := by omega
        try have lw2_w1_2 : w1.heap.size + 1 + 1 < w2.heap.size := by omega
        try have lw2_w1_3 : w1.heap.size + 1 + 1 + 1 < w2.heap.size := by omega
        try have lw2_w1_4 : w1.heap.size + 1 + 1 + 1 + 1 < w2.heap.size := by omega
        try have lw2_w1_5 : w1.heap.size + 1 + 1 + 1 + 1 + 1 < w2.heap.size := by omega
        try have lw2_w1_6 : w1.heap.size + 1 + 1 + 1 + 1 + 1 + 1 < w2.heap.size := by omega
        rw [h2]
        go_wp2_with fail
        go_call (l01Move_any) as e w3 ⟨rfl, bw3⟩
        obtain ⟨sw3, zw3, cw3, fw3⟩ := bcell bw3
        try simp only [World.size_alloc, World.size_setCell, World.size_drew] at sw3
        try have lw3_w_0 : w.heap.size < w3.heap.size := by omega
        try have lw3_w_1 : w.heap.size + 1 < w3.heap.size := by omega
        try have lw3_w_2 : w.heap.size + 1 + 1 < w3.heap.size := by omega
        try have lw3_w_3 : w.heap.size + 1 + 1 + 1 < w3.heap.size := by omega
        try have lw3_w_4 : w.heap.size + 1 + 1 + 1 + 1 < w3.heap.size := by omega
        try have lw3_w_5 : w.heap.size + 1 + 1 + 1 + 1 + 1 < w3.heap.size := by omega
        try have lw3_w_6 : w.heap.size + 1 + 1 + 1 + 1 + 1 + 1 < w3.heap.size := by omega
        try have lw3_w1_0 : w1.heap.size < w3.heap.size := by omega
        try have lw3_w1_1 : w1.heap.size + 1 < w3.heap.size := by omega
        try have lw3_w1_2 : w1.heap.size + 1 + 1 < w3.heap.size := by omega
        try have lw3_w1_3 : w1.heap.size + 1 + 1 + 1 < w3.heap.size := by omega
        try have lw3_w1_4 : w1.heap.size + 1 + 1 + 1 + 1 < w3.heap.size := by omega
        try have lw3_w1_5 : w1.heap.size + 1 + 1 + 1 + 1 + 1 < w3.heap.size := by omega
        try have lw3_w1_6 : w1.heap.size + 1 + 1 + 1 + 1 + 1 + 1 < w3.heap.size := by omega
        try have lw3_w2_0 : w2.heap.size < w3.heap.size := by omega
        try have lw3_w2_1 : w2.heap.size + 1 < w3.heap.size := by omega
        try have lw3_w2_2 : w2.heap.size + 1 + 1 < w3.heap.size := by omega
        try have lw3_w2_3 : w2.heap.size + 1 + 1 + 1 < w3.heap.size := by omega
        try have lw3_w2_4 : w2.heap.size + 1 + 1 + 1 + 1 < w3.heap.size := by omega
        try have lw3_w2_5 : w2.heap.size + 1 + 1 + 1 + 1 + 1 < w3.heap.size := by omega
        try have lw3_w2_6 : w2.heap.size + 1 + 1 + 1 + 1 + 1 + 1 < w3.heap.size := by omega
        go_upto_region 4 with fail
        have y0 : w3.cell? ⟨w.heap.size, 0, none⟩ = some (.int .i64 n) := by simp [*, go_sem]
        have y1 : w3.cell? ⟨w.heap.size, 1, none⟩ = some (.int .i64 x) := by simp [*, go_sem]
        have y2 : w3.cell? ⟨w.heap.size, 2, none⟩ = some (.int .i64 y) := by simp [*, go_sem]
        have y3 : w3.cell? ⟨w.heap.size + 1, 0, none⟩ = some (.int .i64 m) := by simp [*, go_sem]
        have y4 : w3.cell? ⟨w.heap.size + 1, 1, none⟩ = some (.int .i64 q) := by simp [*, go_sem]
        have y5 : w3.cell? ⟨w.heap.size + 1, 2, none⟩ = some (.int .i64 r) := by simp [*, go_sem]
        have y6 : w3.cell? ⟨w.heap.size + 1 + 1, 0, none⟩ = some (.int .i64 0) := by simp [*, go_sem]
        have y7 : w3.cell? ⟨w.heap.size + 1 + 1, 1, none⟩ = some (.int .i64 0) := by simp [*, go_sem]
        have y8 : w3.cell? ⟨w.heap.size + 1 + 1, 2, none⟩ = some (.int .i64 0) := by simp [*, go_sem]
        have f0 : w3.frozen? ⟨w.heap.size + 1 + 1, 0, none⟩ = false := by simp [*, go_sem]
        have f1 : w3.frozen? ⟨w.heap.size + 1 + 1, 1, none⟩ = false := by simp [*, go_sem]
        have f2 : w3.frozen? ⟨w.heap.size + 1 + 1, 2, none⟩ = false := by simp [*, go_sem]
        have B3 : Below w.heap.size w w3 := by (repeat (first | (with_reducible exact Below.refl _ _) | (with_reducible refine Ext.drewN ?_ _) | (with_reducible refine Below.drew ?_) | (with_reducible refine Ext.alloc ?_ _) | (with_reducible refine Ext.setCell ?_ (by simp; try omega) _) | (with_reducible refine Ext.trans ?_ (by assumption)) | (with_reducible assumption) | exact Below.refl _ _))
        clear bw1 zw1 cw1 fw1 bw2 zw2 cw2 fw2 bw3 zw3 cw3 fw3
        go_cut [7] (fun s7 wx => ∃ g : Nat, s7 = .pointer (some ⟨g, 0, none⟩) ∧ w3.heap.size < g ∧ g < wx.heap.size ∧ wx.cell? ⟨g, 0, none⟩ = some (.int .i64 (cmpO n m : Nat)) ∧ wx.cell? ⟨g, 1, none⟩ = some (.int .i64 (tX m x y + q)) ∧ wx.cell? ⟨g, 2, none⟩ = some (.int .i64 (tY m x y + r)) ∧ Below (w3.alloc (.cells #[.int .i64 (tX m x y + q), .int .i64 (tY m x y + r)] 44)).heap.size (w3.alloc (.cells #[.int .i64 (tX m x y + q), .int .i64 (tY m x y + r)] 44)) wx)
        case first =>
          go_region_held3 (fun w' => w3.heap.size < w'.heap.size ∧ Below w.heap.size w w' ∧ w'.cell? ⟨w.heap.size, 0, none⟩ = some (.int .i64 n) ∧ w'.cell? ⟨w.heap.size, 1, none⟩ = some (.int .i64 x) ∧ w'.cell? ⟨w.heap.size, 2, none⟩ = some (.int .i64 y) ∧ w'.cell? ⟨w.heap.size + 1, 0, none⟩ = some (.int .i64 m) ∧ w'.cell? ⟨w.heap.size + 1, 1, none⟩ = some (.int .i64 q) ∧ w'.cell? ⟨w.heap.size + 1, 2, none⟩ = some (.int .i64 r) ∧ w'.cell? ⟨w3.heap.size, 0, none⟩ = some (.int .i64 (tX m x y + q)) ∧ w'.cell? ⟨w3.heap.size, 1, none⟩ = some (.int .i64 (tY m x y + r)))
            (first | ((try dsimp only); go_split_ands; (repeat' (with_reducible refine And.intro ?_ ?_)) <;> first | ((repeat (with_reducible refine keepS ?_ (by simp; try omega) _)); (first | (with_reducible assumption) | (with_reducible exact keepC (by assumption) (by assumption)) | (with_reducible exact keepA (by assumption) _) | (with_reducible exact keepR (by assumption) (by omega) _))) | ((try simp only [World.size_alloc, World.size_setCell, World.size_drew]); omega) | (refine Mats.below hM ?_ hM.size; (repeat (first | (with_reducible exact Below.refl _ _) | (with_reducible refine Ext.drewN ?_ _) | (with_reducible refine Below.drew ?_) | (with_reducible refine Ext.alloc ?_ _) | (with_reducible refine Ext.setCell ?_ (by simp; try omega) _) | (with_reducible refine Ext.trans ?_ (by assumption)) | (with_reducible assumption) | exact Below.refl _ _)); done) | ((repeat (first | (with_reducible exact Below.refl _ _) | (with_reducible refine Ext.drewN ?_ _) | (with_reducible refine Below.drew ?_) | (with_reducible refine Ext.alloc ?_ _) | (with_reducible refine Ext.setCell ?_ (by simp; try omega) _) | (with_reducible refine Ext.trans ?_ (by assumption)) | (with_reducible assumption) | exact Below.refl _ _)); done) | (go_keep; done)))
            (first | (go_at_call 54; refine (l01Same_any n m _ hn8 hm8).mono ?_; rintro e v1 ⟨rfl, bv1⟩; obtain ⟨sv1, zv1, cv1, fv1⟩ := bcell bv1; (try simp only [World.size_alloc, World.size_setCell, World.size_drew] at sv1); (try have nv1_w3_0 : w3.heap.size < v1.heap.size := by omega); (try have nv1_w3_1 : w3.heap.size + 1 < v1.heap.size := by omega); (try have nv1_w3_2 : w3.heap.size + 1 + 1 < v1.heap.size := by omega); (try have nv1_w3_3 : w3.heap.size + 1 + 1 + 1 < v1.heap.size := by omega); (try have nv1_w3_4 : w3.heap.size + 1 + 1 + 1 + 1 < v1.heap.size := by omega); (try have nv1_w3_5 : w3.heap.size + 1 + 1 + 1 + 1 + 1 < v1.heap.size := by omega)))
          all_goals
            go_wp2_with fail
            go_meet
            refine ⟨_, rfl, ?_, ?_, ?_, ?_, ?_, ?_⟩
            · (try simp only [World.size_alloc, World.size_setCell, World.size_drew]); omega
            · (try simp only [World.size_alloc, World.size_setCell, World.size_drew]); omega
            · first | (simp [go_sem]; done) | (refine (set3_0 (u0 := .int .i64 0) (u1 := .int .i64 0) (u2 := .int .i64 0) ?_ ?_ ?_) <;> ((repeat (with_reducible refine keepC (by assumption) ?_)); simp [go_sem]))
            · first | (simp [go_sem]; done) | (refine (set3_1 (u0 := .int .i64 0) (u1 := .int .i64 0) (u2 := .int .i64 0) ?_ ?_ ?_) <;> ((repeat (with_reducible refine keepC (by assumption) ?_)); simp [go_sem]))
            · first | (simp [go_sem]; done) | (refine (set3_2 (u0 := .int .i64 0) (u1 := .int .i64 0) (u2 := .int .i64 0) ?_ ?_ ?_) <;> ((repeat (with_reducible refine keepC (by assumption) ?_)); simp [go_sem]))
            · (repeat (first | (with_reducible exact Below.refl _ _) | (with_reducible refine Ext.drewN ?_ _) | (with_reducible refine Below.drew ?_) | (with_reducible refine Ext.alloc ?_ _) | (with_reducible refine Ext.setCell ?_ (by simp; try omega) _) | (with_reducible refine Ext.trans ?_ (by assumption)) | (with_reducible assumption) | exact Below.refl _ _))
        case rest =>
          obtain ⟨g, rfl, q1, q2, x0, x1, x2, bw4⟩ := hcut
          obtain ⟨sw4, zw4, cw4, fw4⟩ := bcell bw4; (try simp only [World.size_alloc, World.size_setCell, World.size_drew] at sw4)
          have k0 : w.heap.size + 1 + 1 < w3.heap.size := by omega
          go_wp2_with fail
          go_call (specValid_any) as e w5 ⟨rfl, bw5⟩
          obtain ⟨sw5, zw5, cw5, fw5⟩ := bcell bw5
          try simp only [World.size_alloc, World.size_setCell, World.size_drew] at sw5
          try have lw5_w_0 : w.heap.size < w5.heap.size := by omega
          try have lw5_w_1 : w.heap.size + 1 < w5.heap.size := by omega
          try have lw5_w_2 : w.heap.size + 1 + 1 < w5.heap.size := by omega
          try have lw5_w_3 : w.heap.size + 1 + 1 + 1 < w5.heap.size := by omega
          try have lw5_w_4 : w.heap.size + 1 + 1 + 1 + 1 < w5.heap.size := by omega
          try have lw5_w_5 : w.heap.size + 1 + 1 + 1 + 1 + 1 < w5.heap.size := by omega
          try have lw5_w_6 : w.heap.size + 1 + 1 + 1 + 1 + 1 + 1 < w5.heap.size := by omega
          try have lw5_wc_0 : wc.heap.size < w5.heap.size := by omega
          try have lw5_wc_1 : wc.heap.size + 1 < w5.heap.size := by omega
          try have lw5_wc_2 : wc.heap.size + 1 + 1 < w5.heap.size := by omega
          try have lw5_wc_3 : wc.heap.size + 1 + 1 + 1 < w5.heap.size := by omega
          try have lw5_wc_4 : wc.heap.size + 1 + 1 + 1 + 1 < w5.heap.size := by omega
          try have lw5_wc_5 : wc.heap.size + 1 + 1 + 1 + 1 + 1 < w5.heap.size := by omega
          try have lw5_wc_6 : wc.heap.size + 1 + 1 + 1 + 1 + 1 + 1 < w5.heap.size := by omega
          try have lw5_w3_0 : w3.heap.size < w5.heap.size := by omega
          try have lw5_w3_1 : w3.heap.size + 1 < w5.heap.size := by omega
          try have lw5_w3_2 : w3.heap.size + 1 + 1 < w5.heap.size := by omega
          try have lw5_w3_3 : w3.heap.size + 1 + 1 + 1 < w5.heap.size := by omega
          try have lw5_w3_4 : w3.heap.size + 1 + 1 + 1 + 1 < w5.heap.size := by omega
          try have lw5_w3_5 : w3.heap.size + 1 + 1 + 1 + 1 + 1 < w5.heap.size := by omega
          try have lw5_w3_6 : w3.heap.size + 1 + 1 + 1 + 1 + 1 + 1 < w5.heap.size := by omega
          have k1 : w5.cell? ⟨g, 0, none⟩ = some (.int .i64 (cmpO n m : Nat)) := keepC bw5 x0
          have k2 := keepC bw5 x1
          have k3 := keepC bw5 x2
          have e6 := keepC bw5 (keepC bw4 (keepA y6 _))
          have e7 := keepC bw5 (keepC bw4 (keepA y7 _))
          have e8 := keepC bw5 (keepC bw4 (keepA y8 _))
          rw [h3]
          go_wp2_with fail
          refine bodyPost_ret (v := .tuple #[.agg #[.int .i64 (cmpO n m : Nat), .int .i64 (tX m x y + q), .int .i64 (tY m x y + r)], .bool true]) (by simp [*, results, Tryd.results17, go_sem]) rfl ⟨rfl, ?_⟩
          (repeat (first | (with_reducible exact Below.refl _ _) | (with_reducible refine Ext.drewN ?_ _) | (with_reducible refine Below.drew ?_) | (with_reducible refine Ext.alloc ?_ _) | (with_reducible refine Ext.setCell ?_ (by simp; try omega) _) | (with_reducible refine Ext.trans ?_ (by assumption)) | (with_reducible assumption) | exact Below.refl _ _))
end Go.Proofs.YtciodcknobccdaaDoor
