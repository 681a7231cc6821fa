/- The program's image of a point under a transform, and MovePoint. Condition: the variable orientationMatrices holds its table. -/
import Derived.Test.YtfbalpkjcfdakaaGreatDoorQR
import Derived.Test.YtfbalpkjcfdakaaGreatDoorQA
import Derived.Test.YtfbalpkjcfdakaaGreatDoorQD
import Derived.Test.YtfbalpkjcfdakaaGreatDoorQI
namespace Go.Proofs.YtfbalpkjcfdakaaGreatDoor
open Go.RowKit
set_option linter.unusedVariables false
set_option linter.unusedSimpArgs false
attribute [local go_sem ↓] Go.wp_at_zero Go.wp_at_succ

theorem pairSet {w : World} {b : Nat} {u0 u1 v0 v1 : Value} (h0 : w.cell? ⟨b, 0, none⟩ = some u0) (h1 : w.cell? ⟨b, 1, none⟩ = some u1) :
    ((w.setCell ⟨b, 0, none⟩ v0).setCell ⟨b, 1, none⟩ v1).cell? ⟨b, 0, none⟩ = some v0 ∧ ((w.setCell ⟨b, 0, none⟩ v0).setCell ⟨b, 1, none⟩ v1).cell? ⟨b, 1, none⟩ = some v1 := by
  have e1 : (w.setCell ⟨b, 0, none⟩ v0).cell? ⟨b, 1, none⟩ = some u1 := by rw [World.cell?_setCell_other _ _ _ _ (by simp)]; exact h1
  refine ⟨?_, World.cell?_setCell_same _ _ _ e1⟩
  rw [World.cell?_setCell_other _ _ _ _ (by simp)]
  exact World.cell?_setCell_same _ _ _ h0

theorem set2_0 {w : World} {b : Nat} {u0 u1 v0 v1 : Value} (h0 : w.cell? ⟨b, 0, none⟩ = some u0) (h1 : w.cell? ⟨b, 1, none⟩ = some u1) :
    ((w.setCell ⟨b, 0, none⟩ v0).setCell ⟨b, 1, none⟩ v1).cell? ⟨b, 0, none⟩ = some v0 := (pairSet h0 h1).1
theorem set2_1 {w : World} {b : Nat} {u0 u1 v0 v1 : Value} (h0 : w.cell? ⟨b, 0, none⟩ = some u0) (h1 : w.cell? ⟨b, 1, none⟩ = some u1) :
    ((w.setCell ⟨b, 0, none⟩ v0).setCell ⟨b, 1, none⟩ v1).cell? ⟨b, 1, none⟩ = some v1 := (pairSet h0 h1).2
theorem set3_all {w : World} {b : Nat} {u0 u1 u2 v0 v1 v2 : Value} (h0 : w.cell? ⟨b, 0, none⟩ = some u0) (h1 : w.cell? ⟨b, 1, none⟩ = some u1) (h2 : w.cell? ⟨b, 2, none⟩ = some u2) :
    (((w.setCell ⟨b, 0, none⟩ v0).setCell ⟨b, 1, none⟩ v1).setCell ⟨b, 2, none⟩ v2).cell? ⟨b, 0, none⟩ = some v0 ∧ (((w.setCell ⟨b, 0, none⟩ v0).setCell ⟨b, 1, none⟩ v1).setCell ⟨b, 2, none⟩ v2).cell? ⟨b, 1, none⟩ = some v1 ∧ (((w.setCell ⟨b, 0, none⟩ v0).setCell ⟨b, 1, none⟩ v1).setCell ⟨b, 2, none⟩ v2).cell? ⟨b, 2, none⟩ = some v2 := by
  have e2 : ((w.setCell ⟨b, 0, none⟩ v0).setCell ⟨b, 1, none⟩ v1).cell? ⟨b, 2, none⟩ = some u2 := by
    rw [World.cell?_setCell_other _ _ _ _ (by simp), World.cell?_setCell_other _ _ _ _ (by simp)]; exact h2
  obtain ⟨p0, p1⟩ := pairSet (v0 := v0) (v1 := v1) h0 h1
  refine ⟨?_, ?_, World.cell?_setCell_same _ _ _ e2⟩
  · rw [World.cell?_setCell_other _ _ _ _ (by simp)]; exact p0
  · rw [World.cell?_setCell_other _ _ _ _ (by simp)]; exact p1
theorem set3_0 {w : World} {b : Nat} {u0 u1 u2 v0 v1 v2 : Value} (h0 : w.cell? ⟨b, 0, none⟩ = some u0) (h1 : w.cell? ⟨b, 1, none⟩ = some u1) (h2 : w.cell? ⟨b, 2, none⟩ = some u2) :
    (((w.setCell ⟨b, 0, none⟩ v0).setCell ⟨b, 1, none⟩ v1).setCell ⟨b, 2, none⟩ v2).cell? ⟨b, 0, none⟩ = some v0 := (set3_all h0 h1 h2).1
theorem set3_1 {w : World} {b : Nat} {u0 u1 u2 v0 v1 v2 : Value} (h0 : w.cell? ⟨b, 0, none⟩ = some u0) (h1 : w.cell? ⟨b, 1, none⟩ = some u1) (h2 : w.cell? ⟨b, 2, none⟩ = some u2) :
    (((w.setCell ⟨b, 0, none⟩ v0).setCell ⟨b, 1, none⟩ v1).setCell ⟨b, 2, none⟩ v2).cell? ⟨b, 1, none⟩ = some v1 := (set3_all h0 h1 h2).2.1
theorem set3_2 {w : World} {b : Nat} {u0 u1 u2 v0 v1 v2 : Value} (h0 : w.cell? ⟨b, 0, none⟩ = some u0) (h1 : w.cell? ⟨b, 1, none⟩ = some u1) (h2 : w.cell? ⟨b, 2, none⟩ = some u2) :
    (((w.setCell ⟨b, 0, none⟩ v0).setCell ⟨b, 1, none⟩ v1).setCell ⟨b, 2, none⟩ v2).cell? ⟨b, 2, none⟩ = some v2 := (set3_all h0 h1 h2).2.2

set_option maxHeartbeats 8000000 in
theorem tImage_any (o : Nat) (x y a b : Int) (w : World) (ho : o < 8) (hM : Mats w) (hx : -1000 ≤ x) (hx' : x ≤ 1000) (hy : -1000 ≤ y) (hy' : y ≤ 1000) (ha : -1000 ≤ a) (ha' : a ≤ 1000) (hb : -1000 ≤ b) (hb' : b ≤ 1000) :
    Calls Tryz.prog 185 #[.agg #[.int .i64 o, .int .i64 x, .int .i64 y], .agg #[.int .i64 a, .int .i64 b]] w fun e w' => e = .returned (.agg #[.int .i64 (tX o a b + x), .int .i64 (tY o a b + y)]) ∧ Below w.heap.size w w' := by
  obtain ⟨⟨t1, t2⟩, t3, t4⟩ := t_bd o a b 1000 ha ha' hb hb'
  have hms := hM.size
  have hmz := hM.ne
  go_enter Tryz.func185, Tryz.ntmps185
  go_upto_region 1 with fail
  go_cut [5] (fun s5 wx => ∃ g : Nat, s5 = .pointer (some ⟨g, 0, none⟩) ∧ w.heap.size + 1 + 1 < g ∧ g < wx.heap.size ∧ wx.cell? ⟨g, 0, none⟩ = some (.int .i64 (tX o a b)) ∧ wx.cell? ⟨g, 1, none⟩ = some (.int .i64 (tY o a b)) ∧ Below (((w.alloc (.cells #[.int .i64 o, .int .i64 x, .int .i64 y] 159)).alloc (.cells #[.int .i64 a, .int .i64 b] 107)).alloc (.cells #[.int .i64 0, .int .i64 0] 107)).heap.size (((w.alloc (.cells #[.int .i64 o, .int .i64 x, .int .i64 y] 159)).alloc (.cells #[.int .i64 a, .int .i64 b] 107)).alloc (.cells #[.int .i64 0, .int .i64 0] 107)) wx)
  case first =>
    go_region_held3 (fun w' => w.heap.size + 1 + 1 < w'.heap.size ∧ Below w.heap.size w w' ∧ w'.cell? ⟨w.heap.size, 0, none⟩ = some (.int .i64 o) ∧ w'.cell? ⟨w.heap.size, 1, none⟩ = some (.int .i64 x) ∧ w'.cell? ⟨w.heap.size, 2, none⟩ = some (.int .i64 y) ∧ w'.cell? ⟨w.heap.size + 1, 0, none⟩ = some (.int .i64 a) ∧ w'.cell? ⟨w.heap.size + 1, 1, none⟩ = some (.int .i64 b))
      (first | ((try dsimp only); go_split_ands; (repeat' (with_reducible refine And.intro ?_ ?_)) <;> first | ((repeat (with_reducible refine keepS ?_ (by simp; try omega) _)); (first | (with_reducible assumption) | (with_reducible exact keepC (by assumption) (by assumption)) | (with_reducible exact keepA (by assumption) _) | (with_reducible exact keepR (by assumption) (by omega) _))) | ((try simp only [World.size_alloc, World.size_setCell, World.size_drew]); omega) | (refine Mats.below hM ?_ hM.size; (repeat (first | (with_reducible exact Below.refl _ _) | (with_reducible refine Ext.drewN ?_ _) | (with_reducible refine Below.drew ?_) | (with_reducible refine Ext.alloc ?_ _) | (with_reducible refine Ext.setCell ?_ (by simp; try omega) _) | (with_reducible refine Ext.trans ?_ (by assumption)) | (with_reducible assumption) | exact Below.refl _ _)); done) | ((repeat (first | (with_reducible exact Below.refl _ _) | (with_reducible refine Ext.drewN ?_ _) | (with_reducible refine Below.drew ?_) | (with_reducible refine Ext.alloc ?_ _) | (with_reducible refine Ext.setCell ?_ (by simp; try omega) _) | (with_reducible refine Ext.trans ?_ (by assumption)) | (with_reducible assumption) | exact Below.refl _ _)); done) | (go_keep; done)))
      (first | (go_at_call 182; refine (orientation_any _ _ _ _).mono ?_; rintro e w1 ⟨rfl, bw1⟩; obtain ⟨sw1, zw1, cw1, fw1⟩ := bcell bw1; (try simp only [World.size_alloc, World.size_setCell, World.size_drew] at sw1)) | (go_at_call 137; refine (oImage_any o a b _ ho ?_ (by omega) (by omega) (by omega) (by omega)).mono ?_; (go_split_ands; refine Mats.below hM ?_ hM.size; assumption); rintro e w2 ⟨rfl, bw2⟩; obtain ⟨sw2, zw2, cw2, fw2⟩ := bcell bw2; (try simp only [World.size_alloc, World.size_setCell, World.size_drew] at sw2)))
    all_goals
      go_wp2_with fail
      go_meet
      refine ⟨_, rfl, ?_, ?_, ?_, ?_, ?_⟩
      · (try simp only [World.size_alloc, World.size_setCell, World.size_drew]); omega
      · (try simp only [World.size_alloc, World.size_setCell, World.size_drew]); omega
      · first | (simp [go_sem]; done) | (refine (pairSet (u0 := .int .i64 0) (u1 := .int .i64 0) ?_ ?_).1 <;> ((repeat (with_reducible refine keepC (by assumption) ?_)); simp [go_sem]))
      · first | (simp [go_sem]; done) | (refine (pairSet (u0 := .int .i64 0) (u1 := .int .i64 0) ?_ ?_).2 <;> ((repeat (with_reducible refine keepC (by assumption) ?_)); simp [go_sem]))
      · (repeat (first | (with_reducible exact Below.refl _ _) | (with_reducible refine Ext.drewN ?_ _) | (with_reducible refine Below.drew ?_) | (with_reducible refine Ext.alloc ?_ _) | (with_reducible refine Ext.setCell ?_ (by simp; try omega) _) | (with_reducible refine Ext.trans ?_ (by assumption)) | (with_reducible assumption) | exact Below.refl _ _))
  case rest =>
    obtain ⟨g, rfl, q1, q2, q3, q4, bw3⟩ := hcut
    obtain ⟨sw3, zw3, cw3, fw3⟩ := bcell bw3; (try simp only [World.size_alloc, World.size_setCell, World.size_drew] at sw3)
    go_wp2_with fail
    refine bodyPost_ret (v := .agg #[.int .i64 (tX o a b + x), .int .i64 (tY o a b + y)]) (by simp [*, results, Tryz.results185, go_sem]) rfl ⟨rfl, ?_⟩
    (repeat (first | (with_reducible exact Below.refl _ _) | (with_reducible refine Ext.drewN ?_ _) | (with_reducible refine Below.drew ?_) | (with_reducible refine Ext.alloc ?_ _) | (with_reducible refine Ext.setCell ?_ (by simp; try omega) _) | (with_reducible refine Ext.trans ?_ (by assumption)) | (with_reducible assumption) | exact Below.refl _ _))
end Go.Proofs.YtfbalpkjcfdakaaGreatDoor

/- MoveRect: the model's and the program's. Condition: the variable orientationMatrices holds its table. -/
namespace Go.Proofs.YtfbalpkjcfdakaaGreatDoor
open Go.RowKit
set_option linter.unusedVariables false
set_option linter.unusedSimpArgs false
attribute [local go_sem ↓] Go.wp_at_zero Go.wp_at_succ

/-- The image of a rectangle's corners. -/
def mvX (o x y a b : Int) : Int := tX o a b + x
def mvY (o x y a b : Int) : Int := tY o a b + y
def mr0 (o x y a b c d : Int) : Int := lo2 (mvX o x y a b) (mvX o x y c d)
def mr1 (o x y a b c d : Int) : Int := lo2 (mvY o x y a b) (mvY o x y c d)
def mr2 (o x y a b c d : Int) : Int := hi2 (mvX o x y a b) (mvX o x y c d)
def mr3 (o x y a b c d : Int) : Int := hi2 (mvY o x y a b) (mvY o x y c d)
def mvB (o x y a b c d : Int) : Bool := vldB o x y && (rvB a b c d && rvB (mr0 o x y a b c d) (mr1 o x y a b c d) (mr2 o x y a b c d) (mr3 o x y a b c d))
def mv0 (o x y a b c d : Int) : Int := if mvB o x y a b c d = true then mr0 o x y a b c d else 0
def mv1 (o x y a b c d : Int) : Int := if mvB o x y a b c d = true then mr1 o x y a b c d else 0
def mv2 (o x y a b c d : Int) : Int := if mvB o x y a b c d = true then mr2 o x y a b c d else 0
def mv3 (o x y a b c d : Int) : Int := if mvB o x y a b c d = true then mr3 o x y a b c d else 0
/-- What MoveRect answers. -/
def mvV (o x y a b c d : Int) : Value := .tuple #[.agg #[.int .i64 (mv0 o x y a b c d), .int .i64 (mv1 o x y a b c d), .int .i64 (mv2 o x y a b c d), .int .i64 (mv3 o x y a b c d)], .bool (mvB o x y a b c d)]
theorem mvV_no {o x y a b c d : Int} (h : mvB o x y a b c d = false) : mvV o x y a b c d = .tuple #[.agg #[.int .i64 0, .int .i64 0, .int .i64 0, .int .i64 0], .bool false] := by simp [mvV, mv0, mv1, mv2, mv3, h]
theorem mvV_yes {o x y a b c d : Int} (h : mvB o x y a b c d = true) : mvV o x y a b c d = .tuple #[.agg #[.int .i64 (mr0 o x y a b c d), .int .i64 (mr1 o x y a b c d), .int .i64 (mr2 o x y a b c d), .int .i64 (mr3 o x y a b c d)], .bool true] := by simp [mvV, mv0, mv1, mv2, mv3, h]

theorem small_im {o x y a b : Int} (hv : vldB o x y = true) (ha : -1000 ≤ a) (ha' : a ≤ 1000) (hb : -1000 ≤ b) (hb' : b ≤ 1000) : (-1000 ≤ x ∧ x ≤ 1000) ∧ (-1000 ≤ y ∧ y ≤ 1000) := by
  obtain ⟨h1, h2, h3⟩ := vldB_t hv
  omega

end Go.Proofs.YtfbalpkjcfdakaaGreatDoor

/- MoveRect: the program's. Condition: the variable orientationMatrices holds its table. -/
namespace Go.Proofs.YtfbalpkjcfdakaaGreatDoor
open Go.RowKit
set_option linter.unusedVariables false
set_option linter.unusedSimpArgs false
attribute [local go_sem ↓] Go.wp_at_zero Go.wp_at_succ

theorem lo2_min (p q : Int) : lo2 p q = min p q := by unfold lo2; split <;> omega
theorem hi2_max (p q : Int) : hi2 p q = max p q := by unfold hi2; split <;> omega
theorem tImage_is (n : Nat) (x y a b : Int) (w : World) (ho : n < 8) (hM : Mats w) (hx : -1000 ≤ x) (hx' : x ≤ 1000) (hy : -1000 ≤ y) (hy' : y ≤ 1000) (ha : -1000 ≤ a) (ha' : a ≤ 1000) (hb : -1000 ≤ b) (hb' : b ≤ 1000) :
    Calls Tryz.prog 185 #[.agg #[.int .i64 n, .int .i64 x, .int .i64 y], .agg #[.int .i64 a, .int .i64 b]] w fun e w' => e = .returned (.agg #[.int .i64 (mvX n x y a b), .int .i64 (mvY n x y a b)]) ∧ Below w.heap.size w w' := tImage_any n x y a b w ho hM hx hx' hy hy' ha ha' hb hb'

set_option maxHeartbeats 4000000 in
theorem implMoveRect_any (o x y a b c d : Int) (w : World) (hC : ChipW w) (hM : Mats w) : Calls Tryz.prog 149 #[.agg #[.int .i64 o, .int .i64 x, .int .i64 y], .agg #[.int .i64 a, .int .i64 b, .int .i64 c, .int .i64 d]] w fun e w' => e = .returned (mvV o x y a b c d) ∧ Below w.heap.size w w' := by
  have hms := hM.size
  have hmz := hM.ne
  cases h1 : vldB o x y with
  | false =>
    rw [mvV_no (by simp [mvB, h1])]
    go_enter Tryz.func149, Tryz.ntmps149
    go_wp2_with fail
    go_call (implValid_any) as e w1 ⟨rfl, bw1⟩
    obtain ⟨sw1, zw1, cw1, fw1⟩ := bcell bw1
    try simp only [World.size_alloc, World.size_setCell, World.size_drew] at sw1
    try have lw1_w_0 : w.heap.size < w1.heap.size := by omega
    try have lw1_w_1 : w.heap.size + 1 < w1.heap.size := by omega
    try have lw1_w_2 : w.heap.size + 1 + 1 < w1.heap.size := by omega
    try have lw1_w_3 : w.heap.size + 1 + 1 + 1 < w1.heap.size := by omega
    try have lw1_w_4 : w.heap.size + 1 + 1 + 1 + 1 < w1.heap.size := by omega
    try have lw1_w_5 : w.heap.size + 1 + 1 + 1 + 1 + 1 < w1.heap.size := by omega
    try have lw1_w_6 : w.heap.size + 1 + 1 + 1 + 1 + 1 + 1 < w1.heap.size := by omega
    rw [h1]
    go_wp2_with fail
    refine bodyPost_ret (v := .tuple #[.agg #[.int .i64 0, .int .i64 0, .int .i64 0, .int .i64 0], .bool false]) (by simp [*, results, Tryz.results149, go_sem]) rfl ⟨rfl, ?_⟩
    (repeat (first | (with_reducible exact Below.refl _ _) | (with_reducible refine Ext.drewN ?_ _) | (with_reducible refine Below.drew ?_) | (with_reducible refine Ext.alloc ?_ _) | (with_reducible refine Ext.setCell ?_ (by simp; try omega) _) | (with_reducible refine Ext.trans ?_ (by assumption)) | (with_reducible assumption) | exact Below.refl _ _))
  | true =>
    cases h2 : rvB a b c d with
    | false =>
      rw [mvV_no (by simp [mvB, h2])]
      go_enter Tryz.func149, Tryz.ntmps149
      go_wp2_with fail
      go_call (implValid_any) as e w1 ⟨rfl, bw1⟩
      obtain ⟨sw1, zw1, cw1, fw1⟩ := bcell bw1
      try simp only [World.size_alloc, World.size_setCell, World.size_drew] at sw1
      try have lw1_w_0 : w.heap.size < w1.heap.size := by omega
      try have lw1_w_1 : w.heap.size + 1 < w1.heap.size := by omega
      try have lw1_w_2 : w.heap.size + 1 + 1 < w1.heap.size := by omega
      try have lw1_w_3 : w.heap.size + 1 + 1 + 1 < w1.heap.size := by omega
      try have lw1_w_4 : w.heap.size + 1 + 1 + 1 + 1 < w1.heap.size := by omega
      try have lw1_w_5 : w.heap.size + 1 + 1 + 1 + 1 + 1 < w1.heap.size := by omega
      try have lw1_w_6 : w.heap.size + 1 + 1 + 1 + 1 + 1 + 1 < w1.heap.size := by omega
      rw [h1]
      go_wp2_with fail
      go_call (implValidRect_any _ _ _ _ _ (hC.ext (by (repeat (first | (with_reducible exact Below.refl _ _) | (with_reducible refine Ext.drewN ?_ _) | (with_reducible refine Below.drew ?_) | (with_reducible refine Ext.alloc ?_ _) | (with_reducible refine Ext.setCell ?_ (by simp; try omega) _) | (with_reducible refine Ext.trans ?_ (by assumption)) | (with_reducible assumption) | exact Below.refl _ _))))) as e w2 ⟨rfl, bw2⟩
      obtain ⟨sw2, zw2, cw2, fw2⟩ := bcell bw2
      try simp only [World.size_alloc, World.size_setCell, World.size_drew] at sw2
      try have lw2_w_0 : w.heap.size < w2.heap.size := by omega
      try have lw2_w_1 : w.heap.size + 1 < w2.heap.size := by omega
      try have lw2_w_2 : w.heap.size + 1 + 1 < w2.heap.size := by omega
      try have lw2_w_3 : w.heap.size + 1 + 1 + 1 < w2.heap.size := by omega
      try have lw2_w_4 : w.heap.size + 1 + 1 + 1 + 1 < w2.heap.size := by omega
      try have lw2_w_5 : w.heap.size + 1 + 1 + 1 + 1 + 1 < w2.heap.size := by omega
      try have lw2_w_6 : w.heap.size + 1 + 1 + 1 + 1 + 1 + 1 < w2.heap.size := by omega
      try have lw2_w1_0 : w1.heap.size < w2.heap.size := by omega
      try have lw2_w1_1 : w1.heap.size + 1 < w2.heap.size := by omega
      try have lw2_w1_2 : w1.heap.size + 1 + 1 < w2.heap.size := by omega
      try have lw2_w1_3 : w1.heap.size + 1 + 1 + 1 < w2.heap.size := by omega
      try have lw2_w1_4 : w1.heap.size + 1 + 1 + 1 + 1 < w2.heap.size := by omega
      try have lw2_w1_5 : w1.heap.size + 1 + 1 + 1 + 1 + 1 < w2.heap.size := by omega
      try have lw2_w1_6 : w1.heap.size + 1 + 1 + 1 + 1 + 1 + 1 < w2.heap.size := by omega
      rw [h2]
      go_wp2_with fail
      refine bodyPost_ret (v := .tuple #[.agg #[.int .i64 0, .int .i64 0, .int .i64 0, .int .i64 0], .bool false]) (by simp [*, results, Tryz.results149, go_sem]) rfl ⟨rfl, ?_⟩
      (repeat (first | (with_reducible exact Below.refl _ _) | (with_reducible refine Ext.drewN ?_ _) | (with_reducible refine Below.drew ?_) | (with_reducible refine Ext.alloc ?_ _) | (with_reducible refine Ext.setCell ?_ (by simp; try omega) _) | (with_reducible refine Ext.trans ?_ (by assumption)) | (with_reducible assumption) | exact Below.refl _ _))
    | true =>
      obtain ⟨⟨i1, i2⟩, ⟨i3, i4⟩, i5, i6⟩ := vldB_t h1
      obtain ⟨j1, j2, j3, j4, j5, j6⟩ := rvB_t h2
      obtain ⟨n, rfl⟩ : ∃ n : Nat, o = n := ⟨o.toNat, by omega⟩
      have hn8 : n < 8 := by omega
      have hlo : ∀ p q : Int, (if q < p then q else p) = lo2 p q := fun _ _ => rfl
      have hhi : ∀ p q : Int, (if p < q then q else p) = hi2 p q := fun _ _ => rfl
      cases h3 : rvB (mr0 n x y a b c d) (mr1 n x y a b c d) (mr2 n x y a b c d) (mr3 n x y a b c d) with
      | false =>
        rw [mvV_no (by simp [mvB, h3])]
        unfold mr0 mr1 mr2 mr3 at h3
        have h3' := h3
        simp only [lo2_min, hi2_max] at h3'
        go_enter Tryz.func149, Tryz.ntmps149
        go_wp2_with fail
        go_call (implValid_any) as e w1 ⟨rfl, bw1⟩
        obtain ⟨sw1, zw1, cw1, fw1⟩ := bcell bw1
        try simp only [World.size_alloc, World.size_setCell, World.size_drew] at sw1
        try have lw1_w_0 : w.heap.size < w1.heap.size := by omega
        try have lw1_w_1 : w.heap.size + 1 < w1.heap.size := by omega
        try have lw1_w_2 : w.heap.size + 1 + 1 < w1.heap.size := by omega
        try have lw1_w_3 : w.heap.size + 1 + 1 + 1 < w1.heap.size := by omega
        try have lw1_w_4 : w.heap.size + 1 + 1 + 1 + 1 < w1.heap.size := by omega
        try have lw1_w_5 : w.heap.size + 1 + 1 + 1 + 1 + 1 < w1.heap.size := by omega
        try have lw1_w_6 : w.heap.size + 1 + 1 + 1 + 1 + 1 + 1 < w1.heap.size := by omega
        rw [h1]
        go_wp2_with fail
        go_call (implValidRect_any _ _ _ _ _ (hC.ext (by (repeat (first | (with_reducible exact Below.refl _ _) | (with_reducible refine Ext.drewN ?_ _) | (with_reducible refine Below.drew ?_) | (with_reducible refine Ext.alloc ?_ _) | (with_reducible refine Ext.setCell ?_ (by simp; try omega) _) | (with_reducible refine Ext.trans ?_ (by assumption)) | (with_reducible assumption) | exact Below.refl _ _))))) as e w2 ⟨rfl, bw2⟩
        obtain ⟨sw2, zw2, cw2, fw2⟩ := bcell bw2
        try simp only [World.size_alloc, World.size_setCell, World.size_drew] at sw2
        try have lw2_w_0 : w.heap.size < w2.heap.size := by omega
        try have lw2_w_1 : w.heap.size + 1 < w2.heap.size := by omega
        try have lw2_w_2 : w.heap.size + 1 + 1 < w2.heap.size := by omega
        try have lw2_w_3 : w.heap.size + 1 + 1 + 1 < w2.heap.size := by omega
        try have lw2_w_4 : w.heap.size + 1 + 1 + 1 + 1 < w2.heap.size := by omega
        try have lw2_w_5 : w.heap.size + 1 + 1 + 1 + 1 + 1 < w2.heap.size := by omega
        try have lw2_w_6 : w.heap.size + 1 + 1 + 1 + 1 + 1 + 1 < w2.heap.size := by omega
        try have lw2_w1_0 : w1.heap.size < w2.heap.size := by omega
        try have lw2_w1_1 : w1.heap.size + 1 < w2.heap.size := by omega
        try have lw2_w1_2 : w1.heap.size + 1 + 1 < w2.heap.size := by omega
        try have lw2_w1_3 : w1.heap.size + 1 + 1 + 1 < w2.heap.size := by omega
        try have lw2_w1_4 : w1.heap.size + 1 + 1 + 1 + 1 < w2.heap.size := by omega
        try have lw2_w1_5 : w1.heap.size + 1 + 1 + 1 + 1 + 1 < w2.heap.size := by omega
        try have lw2_w1_6 : w1.heap.size + 1 + 1 + 1 + 1 + 1 + 1 < w2.heap.size := by omega
        rw [h2]
        go_wp2_with fail
        go_call (tImage_is n x y a b _ hn8 (hM.below (by (repeat (first | (with_reducible exact Below.refl _ _) | (with_reducible refine Ext.drewN ?_ _) | (with_reducible refine Below.drew ?_) | (with_reducible refine Ext.alloc ?_ _) | (with_reducible refine Ext.setCell ?_ (by simp; try omega) _) | (with_reducible refine Ext.trans ?_ (by assumption)) | (with_reducible assumption) | exact Below.refl _ _))) hms) (by omega) (by omega) (by omega) (by omega) (by omega) (by omega) (by omega) (by omega)) as e w3 ⟨rfl, bw3⟩
        obtain ⟨sw3, zw3, cw3, fw3⟩ := bcell bw3
        try simp only [World.size_alloc, World.size_setCell, World.size_drew] at sw3
        try have lw3_w_0 : w.heap.size < w3.heap.size := by omega
        try have lw3_w_1 : w.heap.size + 1 < w3.heap.size := by omega
        try have lw3_w_2 : w.heap.size + 1 + 1 < w3.heap.size := by omega
        try have lw3_w_3 : w.heap.size + 1 + 1 + 1 < w3.heap.size := by omega
        try have lw3_w_4 : w.heap.size + 1 + 1 + 1 + 1 < w3.heap.size := by omega
        try have lw3_w_5 : w.heap.size + 1 + 1 + 1 + 1 + 1 < w3.heap.size := by omega
        try have lw3_w_6 : w.heap.size + 1 + 1 + 1 + 1 + 1 + 1 < w3.heap.size := by omega
        try have lw3_w1_0 : w1.heap.size < w3.heap.size := by omega
        try have lw3_w1_1 : w1.heap.size + 1 < w3.heap.size := by omega
        try have lw3_w1_2 : w1.heap.size + 1 + 1 < w3.heap.size := by omega
        try have lw3_w1_3 : w1.heap.size + 1 + 1 + 1 < w3.heap.size := by omega
        try have lw3_w1_4 : w1.heap.size + 1 + 1 + 1 + 1 < w3.heap.size := by omega
        try have lw3_w1_5 : w1.heap.size + 1 + 1 + 1 + 1 + 1 < w3.heap.size := by omega
        try have lw3_w1_6 : w1.heap.size + 1 + 1 + 1 + 1 + 1 + 1 < w3.heap.size := by omega
        try have lw3_w2_0 : w2.heap.size < w3.heap.size := by omega
        try have lw3_w2_1 : w2.heap.size + 1 < w3.heap.size := by omega
        try have lw3_w2_2 : w2.heap.size + 1 + 1 < w3.heap.size := by omega
        try have lw3_w2_3 : w2.heap.size + 1 + 1 + 1 < w3.heap.size := by omega
        try have lw3_w2_4 : w2.heap.size + 1 + 1 + 1 + 1 < w3.heap.size := by omega
        try have lw3_w2_5 : w2.heap.size + 1 + 1 + 1 + 1 + 1 < w3.heap.size := by omega
        try have lw3_w2_6 : w2.heap.size + 1 + 1 + 1 + 1 + 1 + 1 < w3.heap.size := by omega
        go_wp2_with fail
        go_call (tImage_is n x y c d _ hn8 (hM.below (by (repeat (first | (with_reducible exact Below.refl _ _) | (with_reducible refine Ext.drewN ?_ _) | (with_reducible refine Below.drew ?_) | (with_reducible refine Ext.alloc ?_ _) | (with_reducible refine Ext.setCell ?_ (by simp; try omega) _) | (with_reducible refine Ext.trans ?_ (by assumption)) | (with_reducible assumption) | exact Below.refl _ _))) hms) (by omega) (by omega) (by omega) (by omega) (by omega) (by omega) (by omega) (by omega)) as e w4 ⟨rfl, bw4⟩
        obtain ⟨sw4, zw4, cw4, fw4⟩ := bcell bw4
        try simp only [World.size_alloc, World.size_setCell, World.size_drew] at sw4
        try have lw4_w_0 : w.heap.size < w4.heap.size := by omega
        try have lw4_w_1 : w.heap.size + 1 < w4.heap.size := by omega
        try have lw4_w_2 : w.heap.size + 1 + 1 < w4.heap.size := by omega
        try have lw4_w_3 : w.heap.size + 1 + 1 + 1 < w4.heap.size := by omega
        try have lw4_w_4 : w.heap.size + 1 + 1 + 1 + 1 < w4.heap.size := by omega
        try have lw4_w_5 : w.heap.size + 1 + 1 + 1 + 1 + 1 < w4.heap.size := by omega
        try have lw4_w_6 : w.heap.size + 1 + 1 + 1 + 1 + 1 + 1 < w4.heap.size := by omega
        try have lw4_w1_0 : w1.heap.size < w4.heap.size := by omega
        try have lw4_w1_1 : w1.heap.size + 1 < w4.heap.size := by omega
        try have lw4_w1_2 : w1.heap.size + 1 + 1 < w4.heap.size := by omega
        try have lw4_w1_3 : w1.heap.size + 1 + 1 + 1 < w4.heap.size := by omega
        try have lw4_w1_4 : w1.heap.size + 1 + 1 + 1 + 1 < w4.heap.size := by omega
        try have lw4_w1_5 : w1.heap.size + 1 + 1 + 1 + 1 + 1 < w4.heap.size := by omega
        try have lw4_w1_6 : w1.heap.size + 1 + 1 + 1 + 1 + 1 + 1 < w4.heap.size := by omega
        try have lw4_w2_0 : w2.heap.size < w4.heap.size := by omega
        try have lw4_w2_1 : w2.heap.size + 1 < w4.heap.size := by omega
        try have lw4_w2_2 : w2.heap.size + 1 + 1 < w4.heap.size := by omega
        try have lw4_w2_3 : w2.heap.size + 1 + 1 + 1 < w4.heap.size := by omega
        try have lw4_w2_4 : w2.heap.size + 1 + 1 + 1 + 1 < w4.heap.size := by omega
        try have lw4_w2_5 : w2.heap.size + 1 + 1 + 1 + 1 + 1 < w4.heap.size := by omega
        try have lw4_w2_6 : w2.heap.size + 1 + 1 + 1 + 1 + 1 + 1 < w4.heap.size := by omega
        try have lw4_w3_0 : w3.heap.size < w4.heap.size := by omega
        try have lw4_w3_1 : w3.heap.size + 1 < w4.heap.size := by omega
        try have lw4_w3_2 : w3.heap.size + 1 + 1 < w4.heap.size := by omega
        try have lw4_w3_3 : w3.heap.size + 1 + 1 + 1 < w4.heap.size := by omega
        try have lw4_w3_4 : w3.heap.size + 1 + 1 + 1 + 1 < w4.heap.size := by omega
        try have lw4_w3_5 : w3.heap.size + 1 + 1 + 1 + 1 + 1 < w4.heap.size := by omega
        try have lw4_w3_6 : w3.heap.size + 1 + 1 + 1 + 1 + 1 + 1 < w4.heap.size := by omega
        go_wp2_with fail
        go_call (implValidRect_any _ _ _ _ _ (hC.ext (by (repeat (first | (with_reducible exact Below.refl _ _) | (with_reducible refine Ext.drewN ?_ _) | (with_reducible refine Below.drew ?_) | (with_reducible refine Ext.alloc ?_ _) | (with_reducible refine Ext.setCell ?_ (by simp; try omega) _) | (with_reducible refine Ext.trans ?_ (by assumption)) | (with_reducible assumption) | exact Below.refl _ _))))) as e w5 ⟨rfl, bw5⟩
        obtain ⟨sw5, zw5, cw5, fw5⟩ := bcell bw5
        try simp only [World.size_alloc, World.size_setCell, World.size_drew] at sw5
        try have lw5_w_0 : w.heap.size < w5.heap.size := by omega
        try have lw5_w_1 : w.heap.size + 1 < w5.heap.size := by omega
        try have lw5_w_2 : w.heap.size + 1 + 1 < w5.heap.size := by omega
        try have lw5_w_3 : w.heap.size + 1 + 1 + 1 < w5.heap.size := by omega
        try have lw5_w_4 : w.heap.size + 1 + 1 + 1 + 1 < w5.heap.size := by omega
        try have lw5_w_5 : w.heap.size + 1 + 1 + 1 + 1 + 1 < w5.heap.size := by omega
        try have lw5_w_6 : w.heap.size + 1 + 1 + 1 + 1 + 1 + 1 < w5.heap.size := by omega
        try have lw5_w1_0 : w1.heap.size < w5.heap.size := by omega
        try have lw5_w1_1 : w1.heap.size + 1 < w5.heap.size := by omega
        try have lw5_w1_2 : w1.heap.size + 1 + 1 < w5.heap.size := by omega
        try have lw5_w1_3 : w1.heap.size + 1 + 1 + 1 < w5.heap.size := by omega
        try have lw5_w1_4 : w1.heap.size + 1 + 1 + 1 + 1 < w5.heap.size := by omega
        try have lw5_w1_5 : w1.heap.size + 1 + 1 + 1 + 1 + 1 < w5.heap.size := by omega
        try have lw5_w1_6 : w1.heap.size + 1 + 1 + 1 + 1 + 1 + 1 < w5.heap.size := by omega
        try have lw5_w2_0 : w2.heap.size < w5.heap.size := by omega
        try have lw5_w2_1 : w2.heap.size + 1 < w5.heap.size := by omega
        try have lw5_w2_2 : w2.heap.size + 1 + 1 < w5.heap.size := by omega
        try have lw5_w2_3 : w2.heap.size + 1 + 1 + 1 < w5.heap.size := by omega
        try have lw5_w2_4 : w2.heap.size + 1 + 1 + 1 + 1 < w5.heap.size := by omega
        try have lw5_w2_5 : w2.heap.size + 1 + 1 + 1 + 1 + 1 < w5.heap.size := by omega
        try have lw5_w2_6 : w2.heap.size + 1 + 1 + 1 + 1 + 1 + 1 < w5.heap.size := by omega
        try have lw5_w3_0 : w3.heap.size < w5.heap.size := by omega
        try have lw5_w3_1 : w3.heap.size + 1 < w5.heap.size := by omega
        try have lw5_w3_2 : w3.heap.size + 1 + 1 < w5.heap.size := by omega
        try have lw5_w3_3 : w3.heap.size + 1 + 1 + 1 < w5.heap.size := by omega
        try have lw5_w3_4 : w3.heap.size + 1 + 1 + 1 + 1 < w5.heap.size := by omega
        try have lw5_w3_5 : w3.heap.size + 1 + 1 + 1 + 1 + 1 < w5.heap.size := by omega
        try have lw5_w3_6 : w3.heap.size + 1 + 1 + 1 + 1 + 1 + 1 < w5.heap.size := by omega
        try have lw5_w4_0 : w4.heap.size < w5.heap.size := by omega
        try have lw5_w4_1 : w4.heap.size + 1 < w5.heap.size := by omega
        try have lw5_w4_2 : w4.heap.size + 1 + 1 < w5.heap.size := by omega
        try have lw5_w4_3 : w4.heap.size + 1 + 1 + 1 < w5.heap.size := by omega
        try have lw5_w4_4 : w4.heap.size + 1 + 1 + 1 + 1 < w5.heap.size := by omega
        try have lw5_w4_5 : w4.heap.size + 1 + 1 + 1 + 1 + 1 < w5.heap.size := by omega
        try have lw5_w4_6 : w4.heap.size + 1 + 1 + 1 + 1 + 1 + 1 < w5.heap.size := by omega
        first | rw [h3] | rw [h3']
        go_wp2_with fail
        refine bodyPost_ret (v := .tuple #[.agg #[.int .i64 0, .int .i64 0, .int .i64 0, .int .i64 0], .bool false]) (by simp [*, results, Tryz.results149, go_sem]) rfl ⟨rfl, ?_⟩
        (repeat (first | (with_reducible exact Below.refl _ _) | (with_reducible refine Ext.drewN ?_ _) | (with_reducible refine Below.drew ?_) | (with_reducible refine Ext.alloc ?_ _) | (with_reducible refine Ext.setCell ?_ (by simp; try omega) _) | (with_reducible refine Ext.trans ?_ (by assumption)) | (with_reducible assumption) | exact Below.refl _ _))
      | true =>
        rw [mvV_yes (by simp [mvB, h1, h2, h3])]
        unfold mr0 mr1 mr2 mr3 at h3 ⊢
        have h3' := h3
        simp only [lo2_min, hi2_max] at h3'
        go_enter Tryz.func149, Tryz.ntmps149
        go_wp2_with fail
        go_call (implValid_any) as e w1 ⟨rfl, bw1⟩
        obtain ⟨sw1, zw1, cw1, fw1⟩ := bcell bw1
        try simp only [World.size_alloc, World.size_setCell, World.size_drew] at sw1
        try have lw1_w_0 : w.heap.size < w1.heap.size := by omega
        try have lw1_w_1 : w.heap.size + 1 < w1.heap.size := by omega
        try have lw1_w_2 : w.heap.size + 1 + 1 < w1.heap.size := by omega
        try have lw1_w_3 : w.heap.size + 1 + 1 + 1 < w1.heap.size := by omega
        try have lw1_w_4 : w.heap.size + 1 + 1 + 1 + 1 < w1.heap.size := by omega
        try have lw1_w_5 : w.heap.size + 1 + 1 + 1 + 1 + 1 < w1.heap.size := by omega
        try have lw1_w_6 : w.heap.size + 1 + 1 + 1 + 1 + 1 + 1 < w1.heap.size := by omega
        rw [h1]
        go_wp2_with fail
        go_call (implValidRect_any _ _ _ _ _ (hC.ext (by (repeat (first | (with_reducible exact Below.refl _ _) | (with_reducible refine Ext.drewN ?_ _) | (with_reducible refine Below.drew ?_) | (with_reducible refine Ext.alloc ?_ _) | (with_reducible refine Ext.setCell ?_ (by simp; try omega) _) | (with_reducible refine Ext.trans ?_ (by assumption)) | (with_reducible assumption) | exact Below.refl _ _))))) as e w2 ⟨rfl, bw2⟩
        obtain ⟨sw2, zw2, cw2, fw2⟩ := bcell bw2
        try simp only [World.size_alloc, World.size_setCell, World.size_drew] at sw2
        try have lw2_w_0 : w.heap.size < w2.heap.size := by omega
        try have lw2_w_1 : w.heap.size + 1 < w2.heap.size := by omega
        try have lw2_w_2 : w.heap.size + 1 + 1 < w2.heap.size := by omega
        try have lw2_w_3 : w.heap.size + 1 + 1 + 1 < w2.heap.size := by omega
        try have lw2_w_4 : w.heap.size + 1 + 1 + 1 + 1 < w2.heap.size := by omega
        try have lw2_w_5 : w.heap.size + 1 + 1 + 1 + 1 + 1 < w2.heap.size := by omega
        try have lw2_w_6 : w.heap.size + 1 + 1 + 1 + 1 + 1 + 1 < w2.heap.size := by omega
        try have lw2_w1_0 : w1.heap.size < w2.heap.size := by omega
        try have lw2_w1_1 : w1.heap.size + 1 < w2.heap.size := by omega
        try have lw2_w1_2 : w1.heap.size + 1 + 1 < w2.heap.size := by omega
        try have lw2_w1_3 : w1.heap.size + 1 + 1 + 1 < w2.heap.size := by omega
        try have lw2_w1_4 : w1.heap.size + 1 + 1 + 1 + 1 < w2.heap.size := by omega
        try have lw2_w1_5 : w1.heap.size + 1 + 1 + 1 + 1 + 1 < w2.heap.size := by omega
        try have lw2_w1_6 : w1.heap.size + 1 + 1 + 1 + 1 + 1 + 1 < w2.heap.size := by omega
        rw [h2]
        go_wp2_with fail
        go_call (tImage_is n x y a b _ hn8 (hM.below (by (repeat (first | (with_reducible exact Below.refl _ _) | (with_reducible refine Ext.drewN ?_ _) | (with_reducible refine Below.drew ?_) | (with_reducible refine Ext.alloc ?_ _) | (with_reducible refine Ext.setCell ?_ (by simp; try omega) _) | (with_reducible refine Ext.trans ?_ (by assumption)) | (with_reducible assumption) | exact Below.refl _ _))) hms) (by omega) (by omega) (by omega) (by omega) (by omega) (by omega) (by omega) (by omega)) as e w3 ⟨rfl, bw3⟩
        obtain ⟨sw3, zw3, cw3, fw3⟩ := bcell bw3
        try simp only [World.size_alloc, World.size_setCell, World.size_drew] at sw3
        try have lw3_w_0 : w.heap.size < w3.heap.size := by omega
        try have lw3_w_1 : w.heap.size + 1 < w3.heap.size := by omega
        try have lw3_w_2 : w.heap.size + 1 + 1 < w3.heap.size := by omega
        try have lw3_w_3 : w.heap.size + 1 + 1 + 1 < w3.heap.size := by omega
        try have lw3_w_4 : w.heap.size + 1 + 1 + 1 + 1 < w3.heap.size := by omega
        try have lw3_w_5 : w.heap.size + 1 + 1 + 1 + 1 + 1 < w3.heap.size := by omega
        try have lw3_w_6 : w.heap.size + 1 + 1 + 1 + 1 + 1 + 1 < w3.heap.size := by omega
        try have lw3_w1_0 : w1.heap.size < w3.heap.size := by omega
        try have lw3_w1_1 : w1.heap.size + 1 < w3.heap.size := by omega
        try have lw3_w1_2 : w1.heap.size + 1 + 1 < w3.heap.size := by omega
        try have lw3_w1_3 : w1.heap.size + 1 + 1 + 1 < w3.heap.size := by omega
        try have lw3_w1_4 : w1.heap.size + 1 + 1 + 1 + 1 < w3.heap.size := by omega
        try have lw3_w1_5 : w1.heap.size + 1 + 1 + 1 + 1 + 1 < w3.heap.size := by omega
        try have lw3_w1_6 : w1.heap.size + 1 + 1 + 1 + 1 + 1 + 1 < w3.heap.size := by omega
        try have lw3_w2_0 : w2.heap.size < w3.heap.size := by omega
        try have lw3_w2_1 : w2.heap.size + 1 < w3.heap.size := by omega
        try have lw3_w2_2 : w2.heap.size + 1 + 1 < w3.heap.size := by omega
        try have lw3_w2_3 : w2.heap.size + 1 + 1 + 1 < w3.heap.size := by omega
        try have lw3_w2_4 : w2.heap.size + 1 + 1 + 1 + 1 < w3.heap.size := by omega
        try have lw3_w2_5 : w2.heap.size + 1 + 1 + 1 + 1 + 1 < w3.heap.size := by omega
        try have lw3_w2_6 : w2.heap.size + 1 + 1 + 1 + 1 + 1 + 1 < w3.heap.size := by omega
        go_wp2_with fail
        go_call (tImage_is n x y c d _ hn8 (hM.below (by (repeat (first | (with_reducible exact Below.refl _ _) | (with_reducible refine Ext.drewN ?_ _) | (with_reducible refine Below.drew ?_) | (with_reducible refine Ext.alloc ?_ _) | (with_reducible refine Ext.setCell ?_ (by simp; try omega) _) | (with_reducible refine Ext.trans ?_ (by assumption)) | (with_reducible assumption) | exact Below.refl _ _))) hms) (by omega) (by omega) (by omega) (by omega) (by omega) (by omega) (by omega) (by omega)) as e w4 ⟨rfl, bw4⟩
        obtain ⟨sw4, zw4, cw4, fw4⟩ := bcell bw4
        try simp only [World.size_alloc, World.size_setCell, World.size_drew] at sw4
        try have lw4_w_0 : w.heap.size < w4.heap.size := by omega
        try have lw4_w_1 : w.heap.size + 1 < w4.heap.size := by omega
        try have lw4_w_2 : w.heap.size + 1 + 1 < w4.heap.size := by omega
        try have lw4_w_3 : w.heap.size + 1 + 1 + 1 < w4.heap.size := by omega
        try have lw4_w_4 : w.heap.size + 1 + 1 + 1 + 1 < w4.heap.size := by omega
        try have lw4_w_5 : w.heap.size + 1 + 1 + 1 + 1 + 1 < w4.heap.size := by omega
        try have lw4_w_6 : w.heap.size + 1 + 1 + 1 + 1 + 1 + 1 < w4.heap.size := by omega
        try have lw4_w1_0 : w1.heap.size < w4.heap.size := by omega
        try have lw4_w1_1 : w1.heap.size + 1 < w4.heap.size := by omega
        try have lw4_w1_2 : w1.heap.size + 1 + 1 < w4.heap.size := by omega
        try have lw4_w1_3 : w1.heap.size + 1 + 1 + 1 < w4.heap.size := by omega
        try have lw4_w1_4 : w1.heap.size + 1 + 1 + 1 + 1 < w4.heap.size := by omega
        try have lw4_w1_5 : w1.heap.size + 1 + 1 + 1 + 1 + 1 < w4.heap.size := by omega
        try have lw4_w1_6 : w1.heap.size + 1 + 1 + 1 + 1 + 1 + 1 < w4.heap.size := by omega
        try have lw4_w2_0 : w2.heap.size < w4.heap.size := by omega
        try have lw4_w2_1 : w2.heap.size + 1 < w4.heap.size := by omega
        try have lw4_w2_2 : w2.heap.size + 1 + 1 < w4.heap.size := by omega
        try have lw4_w2_3 : w2.heap.size + 1 + 1 + 1 < w4.heap.size := by omega
        try have lw4_w2_4 : w2.heap.size + 1 + 1 + 1 + 1 < w4.heap.size := by omega
        try have lw4_w2_5 : w2.heap.size + 1 + 1 + 1 + 1 + 1 < w4.heap.size := by omega
        try have lw4_w2_6 : w2.heap.size + 1 + 1 + 1 + 1 + 1 + 1 < w4.heap.size := by omega
        try have lw4_w3_0 : w3.heap.size < w4.heap.size := by omega
        try have lw4_w3_1 : w3.heap.size + 1 < w4.heap.size := by omega
        try have lw4_w3_2 : w3.heap.size + 1 + 1 < w4.heap.size := by omega
        try have lw4_w3_3 : w3.heap.size + 1 + 1 + 1 < w4.heap.size := by omega
        try have lw4_w3_4 : w3.heap.size + 1 + 1 + 1 + 1 < w4.heap.size := by omega
        try have lw4_w3_5 : w3.heap.size + 1 + 1 + 1 + 1 + 1 < w4.heap.size := by omega
        try have lw4_w3_6 : w3.heap.size + 1 + 1 + 1 + 1 + 1 + 1 < w4.heap.size := by omega
        go_wp2_with fail
        go_call (implValidRect_any _ _ _ _ _ (hC.ext (by (repeat (first | (with_reducible exact Below.refl _ _) | (with_reducible refine Ext.drewN ?_ _) | (with_reducible refine Below.drew ?_) | (with_reducible refine Ext.alloc ?_ _) | (with_reducible refine Ext.setCell ?_ (by simp; try omega) _) | (with_reducible refine Ext.trans ?_ (by assumption)) | (with_reducible assumption) | exact Below.refl _ _))))) as e w5 ⟨rfl, bw5⟩
        obtain ⟨sw5, zw5, cw5, fw5⟩ := bcell bw5
        try simp only [World.size_alloc, World.size_setCell, World.size_drew] at sw5
        try have lw5_w_0 : w.heap.size < w5.heap.size := by omega
        try have lw5_w_1 : w.heap.size + 1 < w5.heap.size := by omega
        try have lw5_w_2 : w.heap.size + 1 + 1 < w5.heap.size := by omega
        try have lw5_w_3 : w.heap.size + 1 + 1 + 1 < w5.heap.size := by omega
        try have lw5_w_4 : w.heap.size + 1 + 1 + 1 + 1 < w5.heap.size := by omega
        try have lw5_w_5 : w.heap.size + 1 + 1 + 1 + 1 + 1 < w5.heap.size := by omega
        try have lw5_w_6 : w.heap.size + 1 + 1 + 1 + 1 + 1 + 1 < w5.heap.size := by omega
        try have lw5_w1_0 : w1.heap.size < w5.heap.size := by omega
        try have lw5_w1_1 : w1.heap.size + 1 < w5.heap.size := by omega
        try have lw5_w1_2 : w1.heap.size + 1 + 1 < w5.heap.size := by omega
        try have lw5_w1_3 : w1.heap.size + 1 + 1 + 1 < w5.heap.size := by omega
        try have lw5_w1_4 : w1.heap.size + 1 + 1 + 1 + 1 < w5.heap.size := by omega
        try have lw5_w1_5 : w1.heap.size + 1 + 1 + 1 + 1 + 1 < w5.heap.size := by omega
        try have lw5_w1_6 : w1.heap.size + 1 + 1 + 1 + 1 + 1 + 1 < w5.heap.size := by omega
        try have lw5_w2_0 : w2.heap.size < w5.heap.size := by omega
        try have lw5_w2_1 : w2.heap.size + 1 < w5.heap.size := by omega
        try have lw5_w2_2 : w2.heap.size + 1 + 1 < w5.heap.size := by omega
        try have lw5_w2_3 : w2.heap.size + 1 + 1 + 1 < w5.heap.size := by omega
        try have lw5_w2_4 : w2.heap.size + 1 + 1 + 1 + 1 < w5.heap.size := by omega
        try have lw5_w2_5 : w2.heap.size + 1 + 1 + 1 + 1 + 1 < w5.heap.size := by omega
        try have lw5_w2_6 : w2.heap.size + 1 + 1 + 1 + 1 + 1 + 1 < w5.heap.size := by omega
        try have lw5_w3_0 : w3.heap.size < w5.heap.size := by omega
        try have lw5_w3_1 : w3.heap.size + 1 < w5.heap.size := by omega
        try have lw5_w3_2 : w3.heap.size + 1 + 1 < w5.heap.size := by omega
        try have lw5_w3_3 : w3.heap.size + 1 + 1 + 1 < w5.heap.size := by omega
        try have lw5_w3_4 : w3.heap.size + 1 + 1 + 1 + 1 < w5.heap.size := by omega
        try have lw5_w3_5 : w3.heap.size + 1 + 1 + 1 + 1 + 1 < w5.heap.size := by omega
        try have lw5_w3_6 : w3.heap.size + 1 + 1 + 1 + 1 + 1 + 1 < w5.heap.size := by omega
        try have lw5_w4_0 : w4.heap.size < w5.heap.size := by omega
        try have lw5_w4_1 : w4.heap.size + 1 < w5.heap.size := by omega
        try have lw5_w4_2 : w4.heap.size + 1 + 1 < w5.heap.size := by omega
        try have lw5_w4_3 : w4.heap.size + 1 + 1 + 1 < w5.heap.size := by omega
        try have lw5_w4_4 : w4.heap.size + 1 + 1 + 1 + 1 < w5.heap.size := by omega
        try have lw5_w4_5 : w4.heap.size + 1 + 1 + 1 + 1 + 1 < w5.heap.size := by omega
        try have lw5_w4_6 : w4.heap.size + 1 + 1 + 1 + 1 + 1 + 1 < w5.heap.size := by omega
        first | rw [h3] | rw [h3']
        go_wp2_with fail
        refine bodyPost_ret (v := .tuple #[.agg #[.int .i64 _, .int .i64 _, .int .i64 _, .int .i64 _], .bool true]) (by simp [*, results, Tryz.results149, go_sem]; try exact ⟨rfl, rfl, rfl, rfl⟩) rfl ⟨ret_ix ?_ ?_ ?_ ?_, ?_⟩
        · first | rfl | exact (lo2_min _ _).symm
        · first | rfl | exact (lo2_min _ _).symm
        · first | rfl | exact (hi2_max _ _).symm
        · first | rfl | exact (hi2_max _ _).symm
        · (repeat (first | (with_reducible exact Below.refl _ _) | (with_reducible refine Ext.drewN ?_ _) | (with_reducible refine Below.drew ?_) | (with_reducible refine Ext.alloc ?_ _) | (with_reducible refine Ext.setCell ?_ (by simp; try omega) _) | (with_reducible refine Ext.trans ?_ (by assumption)) | (with_reducible assumption) | exact Below.refl _ _))
theorem implMoveRect_out (o x y a b c d : Int) (w : World) (hC : ChipW w) (hM : Mats w) : Calls Tryz.prog 149 #[.agg #[.int .i64 o, .int .i64 x, .int .i64 y], .agg #[.int .i64 a, .int .i64 b, .int .i64 c, .int .i64 d]] w fun e w' => e = .returned (.tuple #[.agg #[.int .i64 (mv0 o x y a b c d), .int .i64 (mv1 o x y a b c d), .int .i64 (mv2 o x y a b c d), .int .i64 (mv3 o x y a b c d)], .bool (mvB o x y a b c d)]) ∧ Below w.heap.size w w' := implMoveRect_any o x y a b c d w hC hM
end Go.Proofs.YtfbalpkjcfdakaaGreatDoor

/- The model's MoveRegion. -/
namespace Go.Proofs.YtfbalpkjcfdakaaGreatDoor
open Go.RowKit
set_option linter.unusedVariables false
set_option linter.unusedSimpArgs false
attribute [local go_sem ↓] Go.wp_at_zero Go.wp_at_succ

/-- The images of rectangles. -/
def imA (o x y : Int) (P Q R S : Nat → Int) (i : Nat) : Int := mr0 o x y (P i) (Q i) (R i) (S i)
def imB (o x y : Int) (P Q R S : Nat → Int) (i : Nat) : Int := mr1 o x y (P i) (Q i) (R i) (S i)
def imC (o x y : Int) (P Q R S : Nat → Int) (i : Nat) : Int := mr2 o x y (P i) (Q i) (R i) (S i)
def imD (o x y : Int) (P Q R S : Nat → Int) (i : Nat) : Int := mr3 o x y (P i) (Q i) (R i) (S i)
/-- The list of the first n images. -/
def imL (o x y : Int) (P Q R S : Nat → Int) (n : Nat) : List R4 := listR (imA o x y P Q R S) (imB o x y P Q R S) (imC o x y P Q R S) (imD o x y P Q R S) n
theorem imL_len (o x y : Int) (P Q R S : Nat → Int) (n : Nat) : (imL o x y P Q R S n).length = n := listR_len _ _ _ _ _
theorem imL_succ (o x y : Int) (P Q R S : Nat → Int) (n : Nat) : imL o x y P Q R S (n + 1) = imL o x y P Q R S n ++ [R4.mk (mr0 o x y (P n) (Q n) (R n) (S n)) (mr1 o x y (P n) (Q n) (R n) (S n)) (mr2 o x y (P n) (Q n) (R n) (S n)) (mr3 o x y (P n) (Q n) (R n) (S n))] := by
  unfold imL listR
  rw [List.range_succ, List.map_append]
  rfl
/-- Are the images valid? -/
def imV (o x y : Int) (P Q R S : Nat → Int) (n : Nat) : Bool := allV (imA o x y P Q R S) (imB o x y P Q R S) (imC o x y P Q R S) (imD o x y P Q R S) n
/-- The flags of the images' cells. -/
def imF (o x y : Int) (P Q R S : Nat → Int) (n : Nat) : Nat → Bool := covF (imA o x y P Q R S) (imB o x y P Q R S) (imC o x y P Q R S) (imD o x y P Q R S) n

theorem RectsL.listR {B n : Nat} {w : World} {a : Option Addr} {P Q R S : Nat → Int} (h : RectsL B w a (listR P Q R S n)) : RectsIs B w a n P Q R S := fun i hi => by
  have hg := listR_getD P Q R S n i hi
  obtain ⟨b, off, h1, h2, h3, h4, h5, h6⟩ := h i (by rw [listR_len]; exact hi)
  unfold pA at h3; unfold pB at h4; unfold pC at h5; unfold pD at h6
  rw [hg] at h3 h4 h5 h6
  exact ⟨b, off, h1, h2, h3, h4, h5, h6⟩
theorem imV_f {o x y : Int} {P Q R S : Nat → Int} {n i : Nat} (hi : i < n) (h : rvB (mr0 o x y (P i) (Q i) (R i) (S i)) (mr1 o x y (P i) (Q i) (R i) (S i)) (mr2 o x y (P i) (Q i) (R i) (S i)) (mr3 o x y (P i) (Q i) (R i) (S i)) = false) : imV o x y P Q R S n = false := allV_f hi h
/-- The list and the flag that l03Moved hands back. -/
def mvdL (o x y : Int) (P Q R S : Nat → Int) (n : Nat) : List R4 := if imV o x y P Q R S n = true then canonL (imF o x y P Q R S n) else []
theorem mvd_no {o x y : Int} {P Q R S : Nat → Int} {n : Nat} {e : Ending} {w : World} (h : imV o x y P Q R S n = false) (he : e = .returned (.tuple #[.slice none 0 0, .bool false])) : LRes2 (mvdL o x y P Q R S n) (imV o x y P Q R S n) e w := by
  have e0 : mvdL o x y P Q R S n = [] := by unfold mvdL; rw [if_neg (by simp [h])]
  rw [e0, h]
  exact ⟨none, 0, he, RectsL.nil _ _ _⟩
theorem mvd_yes {o x y : Int} {P Q R S : Nat → Int} {n h c B : Nat} {e : Ending} {w : World} (hv : imV o x y P Q R S n = true) (hI : RecIs B w h (canonL (imF o x y P Q R S n))) (he : e = .returned (.tuple #[.slice (some ⟨h, 0, none⟩) (canonL (imF o x y P Q R S n)).length c, .bool true])) : LRes2 (mvdL o x y P Q R S n) (imV o x y P Q R S n) e w := by
  have e0 : mvdL o x y P Q R S n = canonL (imF o x y P Q R S n) := by unfold mvdL; rw [if_pos hv]
  rw [e0, hv]
  exact ⟨_, c, he, hI.rects⟩
/-- A box of a transform. -/
def BoxT (w : World) (g : Nat) (o x y : Int) : Prop := w.cell? ⟨g, 0, none⟩ = some (.int .i64 o) ∧ w.cell? ⟨g, 1, none⟩ = some (.int .i64 x) ∧ w.cell? ⟨g, 2, none⟩ = some (.int .i64 y)
theorem BoxT.keep {B g : Nat} {w w' : World} {o x y : Int} (h : BoxT w g o x y) (hb : Below B w w') (hg : g < B) : BoxT w' g o x y :=
  ⟨(hb.cell (p := ⟨g, 0, none⟩) hg).trans h.1, (hb.cell (p := ⟨g, 1, none⟩) hg).trans h.2.1, (hb.cell (p := ⟨g, 2, none⟩) hg).trans h.2.2⟩

end Go.Proofs.YtfbalpkjcfdakaaGreatDoor

/- The model's MoveRegion and the walk of FnExactMoveRegion over a contract of the program's function. Condition: the rectangles' cells are in memory. -/
namespace Go.Proofs.YtfbalpkjcfdakaaGreatDoor
open Go.RowKit
set_option linter.unusedVariables false
set_option linter.unusedSimpArgs false
attribute [local go_sem ↓] Go.wp_at_zero Go.wp_at_succ

/-- What MoveRegion answers. -/
def mgB (o x y : Int) (P Q R S : Nat → Int) (n : Nat) : Bool := vldB o x y && (okR P Q R S n && imV o x y P Q R S n)
def mgL (o x y : Int) (P Q R S : Nat → Int) (n : Nat) : List R4 := if mgB o x y P Q R S n = true then canonL (imF o x y P Q R S n) else []
theorem mgL_len (o x y : Int) (P Q R S : Nat → Int) (n : Nat) : (mgL o x y P Q R S n).length ≤ 3280 := by
  unfold mgL; split
  · exact canonL_len _
  · simp
theorem mg_no {o x y : Int} {P Q R S : Nat → Int} {n : Nat} {e : Ending} {w : World} (h : mgB o x y P Q R S n = false) (he : e = .returned (.tuple #[.slice none 0 0, .bool false])) : LRes2 (mgL o x y P Q R S n) (mgB o x y P Q R S n) e w := by
  have e0 : mgL o x y P Q R S n = [] := by unfold mgL; rw [if_neg (by simp [h])]
  rw [e0, h]
  exact ⟨none, 0, he, RectsL.nil _ _ _⟩
theorem okR_len {P Q R S : Nat → Int} {n : Nat} (h : okR P Q R S n = true) : n ≤ 3200 := by
  unfold okR okV at h
  simp only [Bool.and_eq_true, decide_eq_true_eq] at h
  exact h.1.1.1

end Go.Proofs.YtfbalpkjcfdakaaGreatDoor

/- The walk of FnExactMoveRegion over a contract of the program's function. Condition: the rectangles' cells are in memory. -/
namespace Go.Proofs.YtfbalpkjcfdakaaGreatDoor
open Go.RowKit
set_option linter.unusedVariables false
set_option linter.unusedSimpArgs false

/-- The contract that the walk asks of the program's MoveRegion. -/
def ImplMoveRegion : Prop := ∀ (o x y : Int) (m : Option Addr) (n cap : Nat) (P Q R S : Nat → Int) (W : World), n ≤ 1048576 → n ≤ cap → EnvW W → Mats W → RectsIs W.heap.size W m n P Q R S → Calls Tryz.prog 121 #[.agg #[.int .i64 o, .int .i64 x, .int .i64 y], .slice m n cap] W fun e W' => LOwn2 W.heap.size (mgL o x y P Q R S n) (mgB o x y P Q R S n) e W' ∧ Below W.heap.size W W'
theorem BoxT.wr {g b : Nat} {w w' : World} {o x y : Int} (h : BoxT w b o x y) (hw : Wr g w w') (hne : b ≠ g) : BoxT w' b o x y :=
  ⟨hw.cell h.1 hne, hw.cell h.2.1 hne, hw.cell h.2.2 hne⟩

end Go.Proofs.YtfbalpkjcfdakaaGreatDoor

/- The program's MoveRegion. Conditions: the elements' cells are in memory; the variables that regions and transforms read hold their tables. -/
namespace Go.Proofs.YtfbalpkjcfdakaaGreatDoor
open Go.RowKit Go.Shelf
set_option linter.unusedVariables false
set_option linter.unusedSimpArgs false

theorem own_cap' {w : World} {B n c : Nat} {a : Option Addr} {xs : List Value} (h : w.ownsRow B 65 4 (.slice a n c) n xs) : n ≤ c := by
  rcases h.2 with ⟨e, h0⟩ | ⟨g, cap, cur, e, _, _, h3, _⟩
  · omega
  · cases e
    exact h3
theorem covB_congr {P Q R S P' Q' R' S' : Nat → Int} (x y : Int) : ∀ n, (∀ i, i < n → P i = P' i ∧ Q i = Q' i ∧ R i = R' i ∧ S i = S' i) → covB P Q R S x y n = covB P' Q' R' S' x y n
  | 0, _ => rfl
  | n + 1, h => by
    obtain ⟨h1, h2, h3, h4⟩ := h n (by omega)
    rw [covB, covB, covB_congr x y n (fun i hi => h i (by omega)), h1, h2, h3, h4]
theorem allV_congr {P Q R S P' Q' R' S' : Nat → Int} : ∀ n, (∀ i, i < n → P i = P' i ∧ Q i = Q' i ∧ R i = R' i ∧ S i = S' i) → allV P Q R S n = allV P' Q' R' S' n
  | 0, _ => rfl
  | n + 1, h => by
    obtain ⟨h1, h2, h3, h4⟩ := h n (by omega)
    rw [allV_succ, allV_succ, allV_congr n (fun i hi => h i (by omega)), h1, h2, h3, h4]
theorem listR_fun (P Q R S : Nat → Int) (n : Nat) : ∀ i, i < n → pA (listR P Q R S n) i = P i ∧ pB (listR P Q R S n) i = Q i ∧ pC (listR P Q R S n) i = R i ∧ pD (listR P Q R S n) i = S i := fun i hi => by
  have h := listR_getD P Q R S n i hi
  unfold pA pB pC pD
  rw [h]
  exact ⟨rfl, rfl, rfl, rfl⟩
/-- The region of the list that P, Q, R, S spell. -/
theorem roL_listR (P Q R S : Nat → Int) (n : Nat) (hn : n ≤ 3200) (hv : allV P Q R S n = true) : roL (pA (listR P Q R S n)) (pB (listR P Q R S n)) (pC (listR P Q R S n)) (pD (listR P Q R S n)) n = canonL (covF P Q R S n) ∧ okV (pA (listR P Q R S n)) (pB (listR P Q R S n)) (pC (listR P Q R S n)) (pD (listR P Q R S n)) n = true := by
  have hf := listR_fun P Q R S n
  have ho : okV (pA (listR P Q R S n)) (pB (listR P Q R S n)) (pC (listR P Q R S n)) (pD (listR P Q R S n)) n = true := by
    unfold okV
    rw [decide_eq_true hn, allV_congr n hf, hv]
    rfl
  refine ⟨?_, ho⟩
  unfold roL
  rw [if_pos ho]
  refine canonL_congr fun k _ => ?_
  unfold covF
  exact covB_congr _ _ n hf
theorem roL_imL {o x y : Int} {P Q R S : Nat → Int} {n : Nat} (hn : n ≤ 3200) (hv : imV o x y P Q R S n = true) : roL (pA (imL o x y P Q R S n)) (pB (imL o x y P Q R S n)) (pC (imL o x y P Q R S n)) (pD (imL o x y P Q R S n)) n = canonL (imF o x y P Q R S n) ∧ okV (pA (imL o x y P Q R S n)) (pB (imL o x y P Q R S n)) (pC (imL o x y P Q R S n)) (pD (imL o x y P Q R S n)) n = true := by
  unfold imV at hv
  unfold imL imF
  exact roL_listR (imA o x y P Q R S) (imB o x y P Q R S) (imC o x y P Q R S) (imD o x y P Q R S) n hn hv
theorem ro_img {o x y : Int} {P Q R S : Nat → Int} {n : Nat} (hn : n ≤ 3200) (hv : imV o x y P Q R S n = true) (hg : mgB o x y P Q R S n = true ∧ mgL o x y P Q R S n = if true = true then canonL (imF o x y P Q R S n) else []) :
    roL (pA (imL o x y P Q R S n)) (pB (imL o x y P Q R S n)) (pC (imL o x y P Q R S n)) (pD (imL o x y P Q R S n)) (imL o x y P Q R S n).length = mgL o x y P Q R S n ∧ okV (pA (imL o x y P Q R S n)) (pB (imL o x y P Q R S n)) (pC (imL o x y P Q R S n)) (pD (imL o x y P Q R S n)) (imL o x y P Q R S n).length = mgB o x y P Q R S n := by
  obtain ⟨g1, g2⟩ := hg
  rw [if_pos rfl] at g2
  rw [g1, g2, imL_len]
  exact roL_imL hn hv
theorem mvV_at_no {o x y a b c d : Int} (h : rvB (mr0 o x y a b c d) (mr1 o x y a b c d) (mr2 o x y a b c d) (mr3 o x y a b c d) = false) : mvV o x y a b c d = .tuple #[.agg #[.int .i64 0, .int .i64 0, .int .i64 0, .int .i64 0], .bool false] := mvV_no (by unfold mvB; rw [h, Bool.and_false, Bool.and_false])
theorem mvV_at_yes {o x y a b c d : Int} (ht : vldB o x y = true) (hr : rvB a b c d = true) (h : rvB (mr0 o x y a b c d) (mr1 o x y a b c d) (mr2 o x y a b c d) (mr3 o x y a b c d) = true) : mvV o x y a b c d = .tuple #[.agg #[.int .i64 (mr0 o x y a b c d), .int .i64 (mr1 o x y a b c d), .int .i64 (mr2 o x y a b c d), .int .i64 (mr3 o x y a b c d)], .bool true] := mvV_yes (by unfold mvB; rw [ht, hr, h]; rfl)
theorem mgL_of {o x y : Int} {P Q R S : Nat → Int} {n : Nat} {b : Bool} (ht : vldB o x y = true) (hok : okR P Q R S n = true) (hb : imV o x y P Q R S n = b) : mgB o x y P Q R S n = b ∧ mgL o x y P Q R S n = if b = true then canonL (imF o x y P Q R S n) else [] := by
  have e : mgB o x y P Q R S n = b := by unfold mgB; rw [ht, hok, hb]; rfl
  exact ⟨e, by unfold mgL; rw [e]⟩

set_option maxRecDepth 100000 in
set_option maxHeartbeats 1000000 in
theorem moveRegion_any (o x y : Int) (m : Option Addr) (n cap : Nat) (P Q R S : Nat → Int) (w : World) (hn : n ≤ 1048576) (hcap : n ≤ cap) (hD : EnvW w) (hM : Mats w) (hR : RectsIs w.heap.size w m n P Q R S) :
    Calls Tryz.prog 121 #[.agg #[.int .i64 o, .int .i64 x, .int .i64 y], .slice m n cap] w fun e w' => LOwn2 w.heap.size (mgL o x y P Q R S n) (mgB o x y P Q R S n) e w' ∧ Below w.heap.size w w' := by
  obtain ⟨i0, hi, hz0, hz1, hz2⟩ := info_parts Tryz.infoR
  have hms := hM.size
  have hmz := hM.ne
  cases hv : vldB o x y with
  | false =>
    have e0 : mgL o x y P Q R S n = [] ∧ mgB o x y P Q R S n = false := by
      have e : mgB o x y P Q R S n = false := by unfold mgB; rw [hv]; rfl
      exact ⟨by unfold mgL; rw [e]; rfl, e⟩
    rw [e0.1, e0.2]
    clear e0
    go_enter Tryz.func121, Tryz.ntmps121
    go_wp2_with fail
    go_call (implValid_any) as e w1 ⟨rfl, bw1⟩
    obtain ⟨sw1, zw1, cw1, fw1⟩ := bcell bw1
    try simp only [World.size_alloc, World.size_setCell, World.size_drew] at sw1
    try have lw1_w_0 : w.heap.size < w1.heap.size := by omega
    try have lw1_w_1 : w.heap.size + 1 < w1.heap.size := by omega
    try have lw1_w_2 : w.heap.size + 1 + 1 < w1.heap.size := by omega
    try have lw1_w_3 : w.heap.size + 1 + 1 + 1 < w1.heap.size := by omega
    try have lw1_w_4 : w.heap.size + 1 + 1 + 1 + 1 < w1.heap.size := by omega
    try have lw1_w_5 : w.heap.size + 1 + 1 + 1 + 1 + 1 < w1.heap.size := by omega
    try have lw1_w_6 : w.heap.size + 1 + 1 + 1 + 1 + 1 + 1 < w1.heap.size := by omega
    rw [hv]
    go_wp2_with fail
    exact bodyPost_ret (v := .tuple #[.slice none 0 0, .bool false]) (by simp [*, results, Tryz.results121, go_sem]) rfl ⟨⟨none, 0, rfl, .inl rfl⟩, by (repeat (first | (with_reducible exact Below.refl _ _) | (with_reducible refine Ext.drewN ?_ _) | (with_reducible refine Below.drew ?_) | (with_reducible refine Ext.alloc ?_ _) | (with_reducible refine Ext.setCell ?_ (by simp; try omega) _) | (with_reducible refine Ext.trans ?_ (by assumption)) | (with_reducible assumption) | exact Below.refl _ _))⟩
  | true =>
    cases hok : okR P Q R S n with
    | false =>
      have e0 : mgL o x y P Q R S n = [] ∧ mgB o x y P Q R S n = false := by
        have e : mgB o x y P Q R S n = false := by unfold mgB; rw [hok, Bool.false_and, Bool.and_false]
        exact ⟨by unfold mgL; rw [e]; rfl, e⟩
      rw [e0.1, e0.2]
      clear e0
      go_enter Tryz.func121, Tryz.ntmps121
      go_wp2_with fail
      go_call (implValid_any) as e w1 ⟨rfl, bw1⟩
      obtain ⟨sw1, zw1, cw1, fw1⟩ := bcell bw1
      try simp only [World.size_alloc, World.size_setCell, World.size_drew] at sw1
      try have lw1_w_0 : w.heap.size < w1.heap.size := by omega
      try have lw1_w_1 : w.heap.size + 1 < w1.heap.size := by omega
      try have lw1_w_2 : w.heap.size + 1 + 1 < w1.heap.size := by omega
      try have lw1_w_3 : w.heap.size + 1 + 1 + 1 < w1.heap.size := by omega
      try have lw1_w_4 : w.heap.size + 1 + 1 + 1 + 1 < w1.heap.size := by omega
      try have lw1_w_5 : w.heap.size + 1 + 1 + 1 + 1 + 1 < w1.heap.size := by omega
      try have lw1_w_6 : w.heap.size + 1 + 1 + 1 + 1 + 1 + 1 < w1.heap.size := by omega
      rw [hv]
      go_wp2_with fail
      go_call (isRegion_any m n cap P Q R S _ hn hcap (hD.ext (by (repeat (first | (with_reducible exact Below.refl _ _) | (with_reducible refine Ext.drewN ?_ _) | (with_reducible refine Below.drew ?_) | (with_reducible refine Ext.alloc ?_ _) | (with_reducible refine Ext.setCell ?_ (by simp; try omega) _) | (with_reducible refine Ext.trans ?_ (by assumption)) | (with_reducible assumption) | exact Below.refl _ _)))) (hR.ext (by (repeat (first | (with_reducible exact Below.refl _ _) | (with_reducible refine Ext.drewN ?_ _) | (with_reducible refine Below.drew ?_) | (with_reducible refine Ext.alloc ?_ _) | (with_reducible refine Ext.setCell ?_ (by simp; try omega) _) | (with_reducible refine Ext.trans ?_ (by assumption)) | (with_reducible assumption) | exact Below.refl _ _))))) as e w2 ⟨rfl, bw2⟩
      obtain ⟨sw2, zw2, cw2, fw2⟩ := bcell bw2
      try simp only [World.size_alloc, World.size_setCell, World.size_drew] at sw2
      try have lw2_w_0 : w.heap.size < w2.heap.size := by omega
      try have lw2_w_1 : w.heap.size + 1 < w2.heap.size := by omega
      try have lw2_w_2 : w.heap.size + 1 + 1 < w2.heap.size := by omega
      try have lw2_w_3 : w.heap.size + 1 + 1 + 1 < w2.heap.size := by omega
      try have lw2_w_4 : w.heap.size + 1 + 1 + 1 + 1 < w2.heap.size := by omega
      try have lw2_w_5 : w.heap.size + 1 + 1 + 1 + 1 + 1 < w2.heap.size := by omega
      try have lw2_w_6 : w.heap.size + 1 + 1 + 1 + 1 + 1 + 1 < w2.heap.size := by omega
      try have lw2_w1_0 : w1.heap.size < w2.heap.size := by omega
      try have lw2_w1_1 : w1.heap.size + 1 < w2.heap.size := by omega
      try have lw2_w1_2 : w1.heap.size + 1 + 1 < w2.heap.size := by omega
      try have lw2_w1_3 : w1.heap.size + 1 + 1 + 1 < w2.heap.size := by omega
      try have lw2_w1_4 : w1.heap.size + 1 + 1 + 1 + 1 < w2.heap.size := by omega
      try have lw2_w1_5 : w1.heap.size + 1 + 1 + 1 + 1 + 1 < w2.heap.size := by omega
      try have lw2_w1_6 : w1.heap.size + 1 + 1 + 1 + 1 + 1 + 1 < w2.heap.size := by omega
      rw [hok]
      go_wp2_with fail
      exact bodyPost_ret (v := .tuple #[.slice none 0 0, .bool false]) (by simp [*, results, Tryz.results121, go_sem]) rfl ⟨⟨none, 0, rfl, .inl rfl⟩, by (repeat (first | (with_reducible exact Below.refl _ _) | (with_reducible refine Ext.drewN ?_ _) | (with_reducible refine Below.drew ?_) | (with_reducible refine Ext.alloc ?_ _) | (with_reducible refine Ext.setCell ?_ (by simp; try omega) _) | (with_reducible refine Ext.trans ?_ (by assumption)) | (with_reducible assumption) | exact Below.refl _ _))⟩
    | true =>
      have hlen : n ≤ 3200 := okR_len hok
      have HALL := Lib.hid (okR_all hok)
      have HV := Lib.hid hv
      have HMG := Lib.hid fun b => mgL_of (o := o) (x := x) (y := y) (P := P) (Q := Q) (R := R) (S := S) (n := n) (b := b) hv hok
      go_enter Tryz.func121, Tryz.ntmps121
      go_wp2_with fail
      go_call (implValid_any) as e w1 ⟨rfl, bw1⟩
      obtain ⟨sw1, zw1, cw1, fw1⟩ := bcell bw1
      try simp only [World.size_alloc, World.size_setCell, World.size_drew] at sw1
      try have lw1_w_0 : w.heap.size < w1.heap.size := by omega
      try have lw1_w_1 : w.heap.size + 1 < w1.heap.size := by omega
      try have lw1_w_2 : w.heap.size + 1 + 1 < w1.heap.size := by omega
      try have lw1_w_3 : w.heap.size + 1 + 1 + 1 < w1.heap.size := by omega
      try have lw1_w_4 : w.heap.size + 1 + 1 + 1 + 1 < w1.heap.size := by omega
      try have lw1_w_5 : w.heap.size + 1 + 1 + 1 + 1 + 1 < w1.heap.size := by omega
      try have lw1_w_6 : w.heap.size + 1 + 1 + 1 + 1 + 1 + 1 < w1.heap.size := by omega
      rw [hv]
      go_wp2_with fail
      go_call (isRegion_any m n cap P Q R S _ hn hcap (hD.ext (by (repeat (first | (with_reducible exact Below.refl _ _) | (with_reducible refine Ext.drewN ?_ _) | (with_reducible refine Below.drew ?_) | (with_reducible refine Ext.alloc ?_ _) | (with_reducible refine Ext.setCell ?_ (by simp; try omega) _) | (with_reducible refine Ext.trans ?_ (by assumption)) | (with_reducible assumption) | exact Below.refl _ _)))) (hR.ext (by (repeat (first | (with_reducible exact Below.refl _ _) | (with_reducible refine Ext.drewN ?_ _) | (with_reducible refine Below.drew ?_) | (with_reducible refine Ext.alloc ?_ _) | (with_reducible refine Ext.setCell ?_ (by simp; try omega) _) | (with_reducible refine Ext.trans ?_ (by assumption)) | (with_reducible assumption) | exact Below.refl _ _))))) as e w2 ⟨rfl, bw2⟩
      obtain ⟨sw2, zw2, cw2, fw2⟩ := bcell bw2
      try simp only [World.size_alloc, World.size_setCell, World.size_drew] at sw2
      try have lw2_w_0 : w.heap.size < w2.heap.size := by omega
      try have lw2_w_1 : w.heap.size + 1 < w2.heap.size := by omega
      try have lw2_w_2 : w.heap.size + 1 + 1 < w2.heap.size := by omega
      try have lw2_w_3 : w.heap.size + 1 + 1 + 1 < w2.heap.size := by omega
      try have lw2_w_4 : w.heap.size + 1 + 1 + 1 + 1 < w2.heap.size := by omega
      try have lw2_w_5 : w.heap.size + 1 + 1 + 1 + 1 + 1 < w2.heap.size := by omega
      try have lw2_w_6 : w.heap.size + 1 + 1 + 1 + 1 + 1 + 1 < w2.heap.size := by omega
      try have lw2_w1_0 : w1.heap.size < w2.heap.size := by omega
      try have lw2_w1_1 : w1.heap.size + 1 < w2.heap.size := by omega
      try have lw2_w1_2 : w1.heap.size + 1 + 1 < w2.heap.size := by omega
      try have lw2_w1_3 : w1.heap.size + 1 + 1 + 1 < w2.heap.size := by omega
      try have lw2_w1_4 : w1.heap.size + 1 + 1 + 1 + 1 < w2.heap.size := by omega
      try have lw2_w1_5 : w1.heap.size + 1 + 1 + 1 + 1 + 1 < w2.heap.size := by omega
      try have lw2_w1_6 : w1.heap.size + 1 + 1 + 1 + 1 + 1 + 1 < w2.heap.size := by omega
      rw [hok]
      go_wp2_with fail
      have BX0 : Hid (BoxT w2 w.heap.size o x y) := Lib.hid ⟨keepC bw2 (keepC bw1 (by simp [go_sem])), keepC bw2 (keepC bw1 (by simp [go_sem])), keepC bw2 (keepC bw1 (by simp [go_sem]))⟩
      have B2 : Below w.heap.size w w2 := by (repeat (first | (with_reducible exact Below.refl _ _) | (with_reducible refine Ext.drewN ?_ _) | (with_reducible refine Below.drew ?_) | (with_reducible refine Ext.alloc ?_ _) | (with_reducible refine Ext.setCell ?_ (by simp; try omega) _) | (with_reducible refine Ext.trans ?_ (by assumption)) | (with_reducible assumption) | exact Below.refl _ _))
      have l2 : w.heap.size < w2.heap.size := by have h8 := bw1.size; have h9 := bw2.size; simp at h8; omega
      clear bw1 bw2 zw1 cw1 fw1 zw2 cw2 fw2
      go_loopw [6, 21] (fun v s9 wr => ∃ i : Nat, i ≤ n ∧ s9 = .int .i64 (i : Nat) ∧ Hid (wr.ownsRow (w.heap.size + 1) 65 4 v (imL o x y P Q R S i).length (recCells (imL o x y P Q R S i))) ∧ Below w.heap.size w wr ∧ w.heap.size < wr.heap.size ∧ Hid (BoxT wr w.heap.size o x y) ∧ Hid (imV o x y P Q R S i = true)) (fun _ s9 _ => n - (intOf s9).toNat)
      case atStart => exact ⟨0, by omega, rfl, Lib.hid (World.ownsRow_nil _ _ _ _), B2, l2, BX0, Lib.hid rfl⟩
      case round =>
        obtain ⟨i, hil, rfl, HO, hW, hsz, HBX, HA⟩ := hrel
        rename_i v5 _
        by_cases hlt : i < n
        · obtain ⟨b1, o1, rfl, hb1, c0, c1, c2, c3⟩ := hR.below hW i hlt
          have q1 : ((i : Nat) : Int) < (n : Int) := by omega
          have q0 : (0 : Int) ≤ ((i : Nat) : Int) := by omega
          obtain ⟨x0, x1, x2⟩ := HBX.out
          have hll := imL_len o x y P Q R S i
          cases hvm : rvB (mr0 o x y (P i) (Q i) (R i) (S i)) (mr1 o x y (P i) (Q i) (R i) (S i)) (mr2 o x y (P i) (Q i) (R i) (S i)) (mr3 o x y (P i) (Q i) (R i) (S i)) with
          | false =>
            have HN := Lib.hid (HMG.out false (imV_f hlt hvm))
            have HIX := Lib.hid (mvV_at_no hvm)
            clear hvm
            go_wp2_with (first | (go_at_call 149; refine (implMoveRect_any _ _ _ _ _ _ _ _ (hD.chip.ext (by (repeat (first | (with_reducible exact Below.refl _ _) | (with_reducible refine Ext.drewN ?_ _) | (with_reducible refine Below.drew ?_) | (with_reducible refine Ext.alloc ?_ _) | (with_reducible refine Ext.setCell ?_ (by simp; try omega) _) | (with_reducible refine Ext.trans ?_ (by assumption)) | (with_reducible assumption) | exact Below.refl _ _)))) (hM.below (by (repeat (first | (with_reducible exact Below.refl _ _) | (with_reducible refine Ext.drewN ?_ _) | (with_reducible refine Below.drew ?_) | (with_reducible refine Ext.alloc ?_ _) | (with_reducible refine Ext.setCell ?_ (by simp; try omega) _) | (with_reducible refine Ext.trans ?_ (by assumption)) | (with_reducible assumption) | exact Below.refl _ _))) hms)).mono ?_; rintro e v1 ⟨rfl, bv1⟩; rw [HIX.out]))
            have bq : Below wr.heap.size wr v1 := by (repeat (first | (with_reducible exact Below.refl _ _) | (with_reducible refine Ext.drewN ?_ _) | (with_reducible refine Below.drew ?_) | (with_reducible refine Ext.alloc ?_ _) | (with_reducible refine Ext.setCell ?_ (by simp; try omega) _) | (with_reducible refine Ext.trans ?_ (by assumption)) | (with_reducible assumption) | exact Below.refl _ _))
            have bq2 := bq.alloc bq.size (.cells #[.int .i64 0, .int .i64 0, .int .i64 0, .int .i64 0] 65)
            exact bodyPost_ret (v := .tuple #[.slice none 0 0, .bool false]) (by simp [results, Tryz.results121, go_sem]) rfl ⟨⟨none, 0, by rw [HN.out.1, HN.out.2]; rfl, .inl (by rw [HN.out.2]; rfl)⟩, hW.trans (bq2.mono (by omega))⟩
          | true =>
            have HS := Lib.hid (imL_succ o x y P Q R S i)
            have HIX := Lib.hid (mvV_at_yes HV.out (HALL.out i hlt) hvm)
            have HA1 : Hid (imV o x y P Q R S (i + 1) = true) := Lib.hid (by unfold imV; rw [allV_succ]; exact Bool.and_eq_true_iff.2 ⟨HA.out, hvm⟩)
            clear hvm HA
            revert HS HIX
            generalize mr0 o x y (P i) (Q i) (R i) (S i) = v0
            generalize mr1 o x y (P i) (Q i) (R i) (S i) = v1
            generalize mr2 o x y (P i) (Q i) (R i) (S i) = v2
            generalize mr3 o x y (P i) (Q i) (R i) (S i) = v3
            intro HS HIX
            go_upto_region 10 with (first | (go_at_call 149; refine (implMoveRect_any _ _ _ _ _ _ _ _ (hD.chip.ext (by (repeat (first | (with_reducible exact Below.refl _ _) | (with_reducible refine Ext.drewN ?_ _) | (with_reducible refine Below.drew ?_) | (with_reducible refine Ext.alloc ?_ _) | (with_reducible refine Ext.setCell ?_ (by simp; try omega) _) | (with_reducible refine Ext.trans ?_ (by assumption)) | (with_reducible assumption) | exact Below.refl _ _)))) (hM.below (by (repeat (first | (with_reducible exact Below.refl _ _) | (with_reducible refine Ext.drewN ?_ _) | (with_reducible refine Below.drew ?_) | (with_reducible refine Ext.alloc ?_ _) | (with_reducible refine Ext.setCell ?_ (by simp; try omega) _) | (with_reducible refine Ext.trans ?_ (by assumption)) | (with_reducible assumption) | exact Below.refl _ _))) hms)).mono ?_; rintro e u1 ⟨rfl, bu1⟩; rw [HIX.out]))
            have bq : Below wr.heap.size wr u1 := by (repeat (first | (with_reducible exact Below.refl _ _) | (with_reducible refine Ext.drewN ?_ _) | (with_reducible refine Below.drew ?_) | (with_reducible refine Ext.alloc ?_ _) | (with_reducible refine Ext.setCell ?_ (by simp; try omega) _) | (with_reducible refine Ext.trans ?_ (by assumption)) | (with_reducible assumption) | exact Below.refl _ _))
            obtain ⟨wz, hwz⟩ : ∃ wz, wz = u1.alloc (.cells #[.int .i64 v0, .int .i64 v1, .int .i64 v2, .int .i64 v3] 65) := ⟨_, rfl⟩
            have bz : Below wr.heap.size wr wz := by rw [hwz]; exact bq.alloc bq.size _
            have m0 : wz.cell? ⟨u1.heap.size, 0, none⟩ = some (.int .i64 v0) := by rw [hwz]; simp [go_sem]
            have m1 : wz.cell? ⟨u1.heap.size, 1, none⟩ = some (.int .i64 v1) := by rw [hwz]; simp [go_sem]
            have m2 : wz.cell? ⟨u1.heap.size, 2, none⟩ = some (.int .i64 v2) := by rw [hwz]; simp [go_sem]
            have m3 : wz.cell? ⟨u1.heap.size, 3, none⟩ = some (.int .i64 v3) := by rw [hwz]; simp [go_sem]
            have O2 := Lib.hid (own_keep HO.out bz)
            have X2 := Lib.hid (HBX.out.keep bz hsz)
            have sz := bz.size
            rw [← hwz]
            clear hwz bq bu1 HO HBX x0 x1 x2 c0 c1 c2 c3
            go_wp2_with (at_builtin; refine wpList_append_own _ rfl _ _ 26 rfl (w.heap.size + 1) 65 i0 (.agg #[.int .i64 0, .int .i64 0, .int .i64 0, .int .i64 0]) 4 32 Tryz.underlying26 hi hz0 hz1 hz2 rfl (by decide) _ _ _ rfl (O2.out.alloc _) ⟨wz.heap.size, 0, none⟩ 1 1 [.int .i64 v0, .int .i64 v1, .int .i64 v2, .int .i64 v3] rfl rfl (World.news_of_block (cs := #[.int .i64 v0, .int .i64 v1, .int .i64 v2, .int .i64 v3]) (t := 65) (fr := (0, 0)) (heap_alloc_new wz _)) (by simp [Value.oneCell']) (by unfold maxLen; omega) (by omega) (by simp; omega) ?_; intro v' w4 hown4 hgrow hnil)
            have Bx : Below (w.heap.size + 1) wz w4 := ((Below.refl (w.heap.size + 1) wz).alloc (by omega) _).grown hgrow (by simp; omega) (fun k hk => (O2.out.lt k hk).1)
            have sx := Bx.size
            have O4 : Hid (w4.ownsRow (w.heap.size + 1) 65 4 v' (imL o x y P Q R S (i + 1)).length (recCells (imL o x y P Q R S (i + 1)))) := Lib.hid (by rw [HS.out, List.length_append, recCells_snoc]; exact hown4)
            clear hown4 hgrow hnil
            go_roundw
            case rel => exact ⟨i + 1, by omega, by go_num, O4, hW.trans ((bz.mono (by omega)).trans (Bx.mono (by omega))), by omega, Lib.hid (X2.out.keep Bx (by omega)), HA1⟩
            case measure => simp [intOf]; omega
        · have q1 : ¬ ((i : Nat) : Int) < (n : Int) := by omega
          obtain rfl : n = i := by omega
          have hl9 := imL_len o x y P Q R S n
          have HRO := ro_img hlen HA.out (HMG.out true HA.out)
          obtain ⟨l, hl⟩ : ∃ l, l = imL o x y P Q R S n := ⟨_, rfl⟩
          rw [← hl] at HO hl9 HRO
          have HRO := Lib.hid HRO
          obtain ⟨a9, c9, rfl, h9⟩ := ownsL_own HO.out
          have R9 := Lib.hid h9.rects
          have hc9 : Hid (l.length ≤ c9) := Lib.hid (own_cap' HO.out)
          have hl10 : l.length ≤ 1048576 := by omega
          clear h9 HO hl hl9
          go_wp2_with (first | (go_at_call 150; refine (regionOf_any a9 l.length c9 (pA l) (pB l) (pC l) (pD l) _ hl10 hc9.out (hD.ext hW) R9.out).mono ?_; rintro e w5 ⟨⟨a5, c5, rfl, h5⟩, bw5⟩; rw [HRO.out.1] at h5 ⊢; rw [HRO.out.2]; have H5 := Lib.hid h5; clear h5))
          exact bodyPost_ret (v := .tuple #[.slice a5 (mgL o x y P Q R S n).length c5, .bool (mgB o x y P Q R S n)]) (by simp [results, Tryz.results121, go_sem]) rfl ⟨⟨a5, c5, rfl, H5.out.mono hW.size⟩, Ext.trans hW bw5⟩
theorem implMoveRegion : ImplMoveRegion := fun o x y m n cap P Q R S w hn hcap hD hM hR => moveRegion_any o x y m n cap P Q R S w hn hcap hD hM hR
end Go.Proofs.YtfbalpkjcfdakaaGreatDoor
