/- Images of unit cells: the model's and the program's. Condition: the variable orientationMatrices holds its table. -/
import Derived.Test.YtliaconoppnclaaDoorTrI
import Derived.WalkLawsBesides
namespace Go.Proofs.YtliaconoppnclaaDoor
open Go.RowKit
set_option linter.unusedVariables false
set_option linter.unusedSimpArgs false

def mcX (o x a b : Int) : Int := min (tX o a b + x) (tX o (a + 1) (b + 1) + x)
def mcY (o y a b : Int) : Int := min (tY o a b + y) (tY o (a + 1) (b + 1) + y)

theorem l01Cell_any (o x y a b : Int) (w : World) (h0 : 0 ≤ o) (h7 : o ≤ 7) (hx : -900 ≤ x) (hx' : x ≤ 900) (hy : -900 ≤ y) (hy' : y ≤ 900) (ha : -900 ≤ a) (ha' : a ≤ 900) (hb : -900 ≤ b) (hb' : b ≤ 900) :
    Calls Tryd.prog 62 #[.agg #[.int .i64 o, .int .i64 x, .int .i64 y], .agg #[.int .i64 a, .int .i64 b]] w fun e w' => e = .returned (.agg #[.int .i64 (mcX o x a b), .int .i64 (mcY o y a b)]) ∧ Below w.heap.size w w' := by
  go_enter Tryd.func62, Tryd.ntmps62
  go_wp2_with fail
  go_call (l01Move_any) as e w1 ⟨rfl, bw1⟩
  obtain ⟨sw1, zw1, cw1, fw1⟩ := bcell bw1
  try simp only [World.size_alloc, World.size_setCell, World.size_drew] at sw1
  try have lw1_w_0 : w.heap.size < w1.heap.size := by omega
  try have lw1_w_1 : w.heap.size + 1 < w1.heap.size := by omega
  try have lw1_w_2 : w.heap.size + 1 + 1 < w1.heap.size := by omega
  try have lw1_w_3 : w.heap.size + 1 + 1 + 1 < w1.heap.size := by omega
  try have lw1_w_4 : w.heap.size + 1 + 1 + 1 + 1 < w1.heap.size := by omega
  try have lw1_w_5 : w.heap.size + 1 + 1 + 1 + 1 + 1 < w1.heap.size := by omega
  try have lw1_w_6 : w.heap.size + 1 + 1 + 1 + 1 + 1 + 1 < w1.heap.size := by omega
  go_wp2_with fail
  go_call (l01Move_any) as e w2 ⟨rfl, bw2⟩
  obtain ⟨sw2, zw2, cw2, fw2⟩ := bcell bw2
  try simp only [World.size_alloc, World.size_setCell, World.size_drew] at sw2
  try have lw2_w_0 : w.heap.size < w2.heap.size := by omega
  try have lw2_w_1 : w.heap.size + 1 < w2.heap.size := by omega
  try have lw2_w_2 : w.heap.size + 1 + 1 < w2.heap.size := by omega
  try have lw2_w_3 : w.heap.size + 1 + 1 + 1 < w2.heap.size := by omega
  try have lw2_w_4 : w.heap.size + 1 + 1 + 1 + 1 < w2.heap.size := by omega
  try have lw2_w_5 : w.heap.size + 1 + 1 + 1 + 1 + 1 < w2.heap.size := by omega
  try have lw2_w_6 : w.heap.size + 1 + 1 + 1 + 1 + 1 + 1 < w2.heap.size := by omega
  try have lw2_w1_0 : w1.heap.size < w2.heap.size := by omega
  try have lw2_w1_1 : w1.heap.size + 1 < w2.heap.size := by omega
  try have lw2_w1_2 : w1.heap.size + 1 + 1 < w2.heap.size := by omega
  try have lw2_w1_3 : w1.heap.size + 1 + 1 + 1 < w2.heap.size := by omega
  try have lw2_w1_4 : w1.heap.size + 1 + 1 + 1 + 1 < w2.heap.size := by omega
  try have lw2_w1_5 : w1.heap.size + 1 + 1 + 1 + 1 + 1 < w2.heap.size := by omega
  try have lw2_w1_6 : w1.heap.size + 1 + 1 + 1 + 1 + 1 + 1 < w2.heap.size := by omega
  go_wp2_with fail
  refine bodyPost_ret (v := .agg #[.int .i64 (mcX o x a b), .int .i64 (mcY o y a b)]) (by simp [*, results, Tryd.results62, go_sem, mcX, mcY]) rfl ⟨rfl, ?_⟩
  (repeat (first | (with_reducible exact Below.refl _ _) | (with_reducible refine Ext.drewN ?_ _) | (with_reducible refine Below.drew ?_) | (with_reducible refine Ext.alloc ?_ _) | (with_reducible refine Ext.setCell ?_ (by simp; try omega) _) | (with_reducible refine Ext.trans ?_ (by assumption)) | (with_reducible assumption) | exact Below.refl _ _))

def muB (o x y a b : Int) : Bool := vldB o x y && ucB a b
def muX (o x y a b : Int) : Int := if muB o x y a b = true then mcX o x a b else 0
def muY (o x y a b : Int) : Int := if muB o x y a b = true then mcY o y a b else 0
theorem mu_yes {o x y a b : Int} (h1 : vldB o x y = true) (h2 : ucB a b = true) : muX o x y a b = mcX o x a b ∧ muY o x y a b = mcY o y a b ∧ muB o x y a b = true := by
  simp [muX, muY, muB, h1, h2]
theorem mu_no {o x y a b : Int} (h : muB o x y a b = false) : muX o x y a b = 0 ∧ muY o x y a b = 0 ∧ muB o x y a b = false := by
  simp [muX, muY, h]

set_option maxHeartbeats 2000000 in
theorem specMoveUnitCell_out (o x y a b : Int) (w : World) : Calls Tryd.prog 30 #[.agg #[.int .i64 o, .int .i64 x, .int .i64 y], .agg #[.int .i64 a, .int .i64 b]] w fun e w' => e = .returned (.tuple #[.agg #[.int .i64 (muX o x y a b), .int .i64 (muY o x y a b)], .bool (muB o x y a b)]) ∧ Below w.heap.size w w' := by
  cases h1 : vldB o x y with
  | false =>
    obtain ⟨m1, m2, m3⟩ := mu_no (o := o) (x := x) (y := y) (a := a) (b := b) (by simp [muB, h1])
    rw [m1, m2, m3]
    clear m1 m2 m3
    go_enter Tryd.func30, Tryd.ntmps30
    go_wp2_with fail
    go_call (specValid_any) as e w1 ⟨rfl, bw1⟩
    obtain ⟨sw1, zw1, cw1, fw1⟩ := bcell bw1
    try simp only [World.size_alloc, World.size_setCell, World.size_drew] at sw1
    try have lw1_w_0 : w.heap.size < w1.heap.size := by omega
    try have lw1_w_1 : w.heap.size + 1 < w1.heap.size := by omega
    try have lw1_w_2 : w.heap.size + 1 + 1 < w1.heap.size := by omega
    try have lw1_w_3 : w.heap.size + 1 + 1 + 1 < w1.heap.size := by omega
    try have lw1_w_4 : w.heap.size + 1 + 1 + 1 + 1 < w1.heap.size := by omega
    try have lw1_w_5 : w.heap.size + 1 + 1 + 1 + 1 + 1 < w1.heap.size := by omega
    try have lw1_w_6 : w.heap.size + 1 + 1 + 1 + 1 + 1 + 1 < w1.heap.size := by omega
    rw [h1]
    go_wp2_with fail
    refine bodyPost_ret (v := .tuple #[.agg #[.int .i64 0, .int .i64 0], .bool false]) (by simp [*, results, Tryd.results30, go_sem]) rfl ⟨rfl, ?_⟩
    (repeat (first | (with_reducible exact Below.refl _ _) | (with_reducible refine Ext.drewN ?_ _) | (with_reducible refine Below.drew ?_) | (with_reducible refine Ext.alloc ?_ _) | (with_reducible refine Ext.setCell ?_ (by simp; try omega) _) | (with_reducible refine Ext.trans ?_ (by assumption)) | (with_reducible assumption) | exact Below.refl _ _))
  | true =>
    cases h2 : inB a (-40) 39 with
    | false =>
      obtain ⟨m1, m2, m3⟩ := mu_no (o := o) (x := x) (y := y) (a := a) (b := b) (by simp [muB, ucB, h1, h2])
      rw [m1, m2, m3]
      clear m1 m2 m3
      go_enter Tryd.func30, Tryd.ntmps30
      go_wp2_with fail
      go_call (specValid_any) as e w1 ⟨rfl, bw1⟩
      obtain ⟨sw1, zw1, cw1, fw1⟩ := bcell bw1
      try simp only [World.size_alloc, World.size_setCell, World.size_drew] at sw1
      try have lw1_w_0 : w.heap.size < w1.heap.size := by omega
      try have lw1_w_1 : w.heap.size + 1 < w1.heap.size := by omega
      try have lw1_w_2 : w.heap.size + 1 + 1 < w1.heap.size := by omega
      try have lw1_w_3 : w.heap.size + 1 + 1 + 1 < w1.heap.size := by omega
      try have lw1_w_4 : w.heap.size + 1 + 1 + 1 + 1 < w1.heap.size := by omega
      try have lw1_w_5 : w.heap.size + 1 + 1 + 1 + 1 + 1 < w1.heap.size := by omega
      try have lw1_w_6 : w.heap.size + 1 + 1 + 1 + 1 + 1 + 1 < w1.heap.size := by omega
      rw [h1]
      go_wp2_with (go_at_call 53; go_call l01In_any as e w' ⟨rfl, rfl⟩)
      refine bodyPost_ret (v := .tuple #[.agg #[.int .i64 0, .int .i64 0], .bool false]) (by simp [*, results, Tryd.results30, go_sem]) rfl ⟨rfl, ?_⟩
      (repeat (first | (with_reducible exact Below.refl _ _) | (with_reducible refine Ext.drewN ?_ _) | (with_reducible refine Below.drew ?_) | (with_reducible refine Ext.alloc ?_ _) | (with_reducible refine Ext.setCell ?_ (by simp; try omega) _) | (with_reducible refine Ext.trans ?_ (by assumption)) | (with_reducible assumption) | exact Below.refl _ _))
    | true =>
      cases h3 : inB b (-40) 39 with
      | false =>
        obtain ⟨m1, m2, m3⟩ := mu_no (o := o) (x := x) (y := y) (a := a) (b := b) (by simp [muB, ucB, h1, h2, h3])
        rw [m1, m2, m3]
        clear m1 m2 m3
        go_enter Tryd.func30, Tryd.ntmps30
        go_wp2_with fail
        go_call (specValid_any) as e w1 ⟨rfl, bw1⟩
        obtain ⟨sw1, zw1, cw1, fw1⟩ := bcell bw1
        try simp only [World.size_alloc, World.size_setCell, World.size_drew] at sw1
        try have lw1_w_0 : w.heap.size < w1.heap.size := by omega
        try have lw1_w_1 : w.heap.size + 1 < w1.heap.size := by omega
        try have lw1_w_2 : w.heap.size + 1 + 1 < w1.heap.size := by omega
        try have lw1_w_3 : w.heap.size + 1 + 1 + 1 < w1.heap.size := by omega
        try have lw1_w_4 : w.heap.size + 1 + 1 + 1 + 1 < w1.heap.size := by omega
        try have lw1_w_5 : w.heap.size + 1 + 1 + 1 + 1 + 1 < w1.heap.size := by omega
        try have lw1_w_6 : w.heap.size + 1 + 1 + 1 + 1 + 1 + 1 < w1.heap.size := by omega
        rw [h1]
        go_wp2_with (go_at_call 53; go_call l01In_any as e w' ⟨rfl, rfl⟩)
        refine bodyPost_ret (v := .tuple #[.agg #[.int .i64 0, .int .i64 0], .bool false]) (by simp [*, results, Tryd.results30, go_sem]) rfl ⟨rfl, ?_⟩
        (repeat (first | (with_reducible exact Below.refl _ _) | (with_reducible refine Ext.drewN ?_ _) | (with_reducible refine Below.drew ?_) | (with_reducible refine Ext.alloc ?_ _) | (with_reducible refine Ext.setCell ?_ (by simp; try omega) _) | (with_reducible refine Ext.trans ?_ (by assumption)) | (with_reducible assumption) | exact Below.refl _ _))
      | true =>
        obtain ⟨m1, m2, m3⟩ := mu_yes (a := a) (b := b) h1 (by simp [ucB, h2, h3])
        rw [m1, m2, m3]
        clear m1 m2 m3
        obtain ⟨⟨i1, i2⟩, ⟨i3, i4⟩, i5, i6⟩ := vldB_t h1
        obtain ⟨j1, j2⟩ := inB_t h2
        obtain ⟨j3, j4⟩ := inB_t h3
        go_enter Tryd.func30, Tryd.ntmps30
        go_wp2_with fail
        go_call (specValid_any) as e w1 ⟨rfl, bw1⟩
        obtain ⟨sw1, zw1, cw1, fw1⟩ := bcell bw1
        try simp only [World.size_alloc, World.size_setCell, World.size_drew] at sw1
        try have lw1_w_0 : w.heap.size < w1.heap.size := by omega
        try have lw1_w_1 : w.heap.size + 1 < w1.heap.size := by omega
        try have lw1_w_2 : w.heap.size + 1 + 1 < w1.heap.size := by omega
        try have lw1_w_3 : w.heap.size + 1 + 1 + 1 < w1.heap.size := by omega
        try have lw1_w_4 : w.heap.size + 1 + 1 + 1 + 1 < w1.heap.size := by omega
        try have lw1_w_5 : w.heap.size + 1 + 1 + 1 + 1 + 1 < w1.heap.size := by omega
        try have lw1_w_6 : w.heap.size + 1 + 1 + 1 + 1 + 1 + 1 < w1.heap.size := by omega
        rw [h1]
        go_wp2_with (go_at_call 53; go_call l01In_any as e w' ⟨rfl, rfl⟩)
        go_call (l01Cell_any) as e w2 ⟨rfl, bw2⟩
        obtain ⟨sw2, zw2, cw2, fw2⟩ := bcell bw2
        try simp only [World.size_alloc, World.size_setCell, World.size_drew] at sw2
        try have lw2_w_0 : w.heap.size < w2.heap.size := by omega
        try have lw2_w_1 : w.heap.size + 1 < w2.heap.size := by omega
        try have lw2_w_2 : w.heap.size + 1 + 1 < w2.heap.size := by omega
        try have lw2_w_3 : w.heap.size + 1 + 1 + 1 < w2.heap.size := by omega
        try have lw2_w_4 : w.heap.size + 1 + 1 + 1 + 1 < w2.heap.size := by omega
        try have lw2_w_5 : w.heap.size + 1 + 1 + 1 + 1 + 1 < w2.heap.size := by omega
        try have lw2_w_6 : w.heap.size + 1 + 1 + 1 + 1 + 1 + 1 < w2.heap.size := by omega
        try have lw2_w1_0 : w1.heap.size < w2.heap.size := by omega
        try have lw2_w1_1 : w1.heap.size + 1 < w2.heap.size := by omega
        try have lw2_w1_2 : w1.heap.size + 1 + 1 < w2.heap.size := by omega
        try have lw2_w1_3 : w1.heap.size + 1 + 1 + 1 < w2.heap.size := by omega
        try have lw2_w1_4 : w1.heap.size + 1 + 1 + 1 + 1 < w2.heap.size := by omega
        try have lw2_w1_5 : w1.heap.size + 1 + 1 + 1 + 1 + 1 < w2.heap.size := by omega
        try have lw2_w1_6 : w1.heap.size + 1 + 1 + 1 + 1 + 1 + 1 < w2.heap.size := by omega
        go_wp2_with fail
        refine bodyPost_ret (v := .tuple #[.agg #[.int .i64 (mcX o x a b), .int .i64 (mcY o y a b)], .bool true]) (by simp [*, results, Tryd.results30, go_sem]) rfl ⟨rfl, ?_⟩
        (repeat (first | (with_reducible exact Below.refl _ _) | (with_reducible refine Ext.drewN ?_ _) | (with_reducible refine Below.drew ?_) | (with_reducible refine Ext.alloc ?_ _) | (with_reducible refine Ext.setCell ?_ (by simp; try omega) _) | (with_reducible refine Ext.trans ?_ (by assumption)) | (with_reducible assumption) | exact Below.refl _ _))

set_option maxHeartbeats 2000000 in
theorem implMoveUnitCell_out (o x y a b : Int) (w : World) (hM : Mats w) : Calls Tryd.prog 31 #[.agg #[.int .i64 o, .int .i64 x, .int .i64 y], .agg #[.int .i64 a, .int .i64 b]] w fun e w' => e = .returned (.tuple #[.agg #[.int .i64 (muX o x y a b), .int .i64 (muY o x y a b)], .bool (muB o x y a b)]) ∧ Below w.heap.size w w' := by
  cases h1 : vldB o x y with
  | false =>
    obtain ⟨m1, m2, m3⟩ := mu_no (o := o) (x := x) (y := y) (a := a) (b := b) (by simp [muB, h1])
    rw [m1, m2, m3]
    clear m1 m2 m3
    go_enter Tryd.func31, Tryd.ntmps31
    go_wp2_with fail
    go_call (implValid_any) as e w1 ⟨rfl, bw1⟩
    obtain ⟨sw1, zw1, cw1, fw1⟩ := bcell bw1
    try simp only [World.size_alloc, World.size_setCell, World.size_drew] at sw1
    try have lw1_w_0 : w.heap.size < w1.heap.size := by omega
    try have lw1_w_1 : w.heap.size + 1 < w1.heap.size := by omega
    try have lw1_w_2 : w.heap.size + 1 + 1 < w1.heap.size := by omega
    try have lw1_w_3 : w.heap.size + 1 + 1 + 1 < w1.heap.size := by omega
    try have lw1_w_4 : w.heap.size + 1 + 1 + 1 + 1 < w1.heap.size := by omega
    try have lw1_w_5 : w.heap.size + 1 + 1 + 1 + 1 + 1 < w1.heap.size := by omega
    try have lw1_w_6 : w.heap.size + 1 + 1 + 1 + 1 + 1 + 1 < w1.heap.size := by omega
    rw [h1]
    go_wp2_with fail
    refine bodyPost_ret (v := .tuple #[.agg #[.int .i64 0, .int .i64 0], .bool false]) (by simp [*, results, Tryd.results31, go_sem]) rfl ⟨rfl, ?_⟩
    (repeat (first | (with_reducible exact Below.refl _ _) | (with_reducible refine Ext.drewN ?_ _) | (with_reducible refine Below.drew ?_) | (with_reducible refine Ext.alloc ?_ _) | (with_reducible refine Ext.setCell ?_ (by simp; try omega) _) | (with_reducible refine Ext.trans ?_ (by assumption)) | (with_reducible assumption) | exact Below.refl _ _))
  | true =>
    cases h2 : ucB a b with
    | false =>
      obtain ⟨m1, m2, m3⟩ := mu_no (o := o) (x := x) (y := y) (a := a) (b := b) (by simp [muB, h1, h2])
      rw [m1, m2, m3]
      clear m1 m2 m3
      go_enter Tryd.func31, Tryd.ntmps31
      go_wp2_with fail
      go_call (implValid_any) as e w1 ⟨rfl, bw1⟩
      obtain ⟨sw1, zw1, cw1, fw1⟩ := bcell bw1
      try simp only [World.size_alloc, World.size_setCell, World.size_drew] at sw1
      try have lw1_w_0 : w.heap.size < w1.heap.size := by omega
      try have lw1_w_1 : w.heap.size + 1 < w1.heap.size := by omega
      try have lw1_w_2 : w.heap.size + 1 + 1 < w1.heap.size := by omega
      try have lw1_w_3 : w.heap.size + 1 + 1 + 1 < w1.heap.size := by omega
      try have lw1_w_4 : w.heap.size + 1 + 1 + 1 + 1 < w1.heap.size := by omega
      try have lw1_w_5 : w.heap.size + 1 + 1 + 1 + 1 + 1 < w1.heap.size := by omega
      try have lw1_w_6 : w.heap.size + 1 + 1 + 1 + 1 + 1 + 1 < w1.heap.size := by omega
      rw [h1]
      go_wp2_with fail
      go_call (isUnitCell_any) as e w2 ⟨rfl, bw2⟩
      obtain ⟨sw2, zw2, cw2, fw2⟩ := bcell bw2
      try simp only [World.size_alloc, World.size_setCell, World.size_drew] at sw2
      try have lw2_w_0 : w.heap.size < w2.heap.size := by omega
      try have lw2_w_1 : w.heap.size + 1 < w2.heap.size := by omega
      try have lw2_w_2 : w.heap.size + 1 + 1 < w2.heap.size := by omega
      try have lw2_w_3 : w.heap.size + 1 + 1 + 1 < w2.heap.size := by omega
      try have lw2_w_4 : w.heap.size + 1 + 1 + 1 + 1 < w2.heap.size := by omega
      try have lw2_w_5 : w.heap.size + 1 + 1 + 1 + 1 + 1 < w2.heap.size := by omega
      try have lw2_w_6 : w.heap.size + 1 + 1 + 1 + 1 + 1 + 1 < w2.heap.size := by omega
      try have lw2_w1_0 : w1.heap.size < w2.heap.size := by omega
      try have lw2_w1_1 : w1.heap.size + 1 < w2.heap.size := by omega
      try have lw2_w1_2 : w1.heap.size + 1 + 1 < w2.heap.size := by omega
      try have lw2_w1_3 : w1.heap.size + 1 + 1 + 1 < w2.heap.size := by omega
      try have lw2_w1_4 : w1.heap.size + 1 + 1 + 1 + 1 < w2.heap.size := by omega
      try have lw2_w1_5 : w1.heap.size + 1 + 1 + 1 + 1 + 1 < w2.heap.size := by omega
      try have lw2_w1_6 : w1.heap.size + 1 + 1 + 1 + 1 + 1 + 1 < w2.heap.size := by omega
      rw [h2]
      go_wp2_with fail
      refine bodyPost_ret (v := .tuple #[.agg #[.int .i64 0, .int .i64 0], .bool false]) (by simp [*, results, Tryd.results31, go_sem]) rfl ⟨rfl, ?_⟩
      (repeat (first | (with_reducible exact Below.refl _ _) | (with_reducible refine Ext.drewN ?_ _) | (with_reducible refine Below.drew ?_) | (with_reducible refine Ext.alloc ?_ _) | (with_reducible refine Ext.setCell ?_ (by simp; try omega) _) | (with_reducible refine Ext.trans ?_ (by assumption)) | (with_reducible assumption) | exact Below.refl _ _))
    | true =>
      obtain ⟨m1, m2, m3⟩ := mu_yes h1 h2
      rw [m1, m2, m3]
      clear m1 m2 m3
      obtain ⟨⟨i1, i2⟩, ⟨i3, i4⟩, i5, i6⟩ := vldB_t h1
      obtain ⟨⟨j1, j2⟩, j3, j4⟩ := ucB_t h2
      obtain ⟨n, rfl⟩ : ∃ n : Nat, o = (n : Int) := ⟨o.toNat, by omega⟩
      have hn8 : n < 8 := by omega
      go_enter Tryd.func31, Tryd.ntmps31
      go_wp2_with fail
      go_call (implValid_any) as e w1 ⟨rfl, bw1⟩
      obtain ⟨sw1, zw1, cw1, fw1⟩ := bcell bw1
      try simp only [World.size_alloc, World.size_setCell, World.size_drew] at sw1
      try have lw1_w_0 : w.heap.size < w1.heap.size := by omega
      try have lw1_w_1 : w.heap.size + 1 < w1.heap.size := by omega
      try have lw1_w_2 : w.heap.size + 1 + 1 < w1.heap.size := by omega
      try have lw1_w_3 : w.heap.size + 1 + 1 + 1 < w1.heap.size := by omega
      try have lw1_w_4 : w.heap.size + 1 + 1 + 1 + 1 < w1.heap.size := by omega
      try have lw1_w_5 : w.heap.size + 1 + 1 + 1 + 1 + 1 < w1.heap.size := by omega
      try have lw1_w_6 : w.heap.size + 1 + 1 + 1 + 1 + 1 + 1 < w1.heap.size := by omega
      rw [h1]
      go_wp2_with fail
      go_call (isUnitCell_any) as e w2 ⟨rfl, bw2⟩
      obtain ⟨sw2, zw2, cw2, fw2⟩ := bcell bw2
      try simp only [World.size_alloc, World.size_setCell, World.size_drew] at sw2
      try have lw2_w_0 : w.heap.size < w2.heap.size := by omega
      try have lw2_w_1 : w.heap.size + 1 < w2.heap.size := by omega
      try have lw2_w_2 : w.heap.size + 1 + 1 < w2.heap.size := by omega
      try have lw2_w_3 : w.heap.size + 1 + 1 + 1 < w2.heap.size := by omega
      try have lw2_w_4 : w.heap.size + 1 + 1 + 1 + 1 < w2.heap.size := by omega
      try have lw2_w_5 : w.heap.size + 1 + 1 + 1 + 1 + 1 < w2.heap.size := by omega
      try have lw2_w_6 : w.heap.size + 1 + 1 + 1 + 1 + 1 + 1 < w2.heap.size := by omega
      try have lw2_w1_0 : w1.heap.size < w2.heap.size := by omega
      try have lw2_w1_1 : w1.heap.size + 1 < w2.heap.size := by omega
      try have lw2_w1_2 : w1.heap.size + 1 + 1 < w2.heap.size := by omega
      try have lw2_w1_3 : w1.heap.size + 1 + 1 + 1 < w2.heap.size := by omega
      try have lw2_w1_4 : w1.heap.size + 1 + 1 + 1 + 1 < w2.heap.size := by omega
      try have lw2_w1_5 : w1.heap.size + 1 + 1 + 1 + 1 + 1 < w2.heap.size := by omega
      try have lw2_w1_6 : w1.heap.size + 1 + 1 + 1 + 1 + 1 + 1 < w2.heap.size := by omega
      rw [h2]
      go_wp2_with fail
      have hM2 : Mats w2 := by
        refine hM.below ?_ hM.size
        (repeat (first | (with_reducible exact Below.refl _ _) | (with_reducible refine Ext.drewN ?_ _) | (with_reducible refine Below.drew ?_) | (with_reducible refine Ext.alloc ?_ _) | (with_reducible refine Ext.setCell ?_ (by simp; try omega) _) | (with_reducible refine Ext.trans ?_ (by assumption)) | (with_reducible assumption) | exact Below.refl _ _))
      go_call (tImage_any) as e w3 ⟨rfl, bw3⟩
      obtain ⟨sw3, zw3, cw3, fw3⟩ := bcell bw3
      try simp only [World.size_alloc, World.size_setCell, World.size_drew] at sw3
      try have lw3_w_0 : w.heap.size < w3.heap.size := by omega
      try have lw3_w_1 : w.heap.size + 1 < w3.heap.size := by omega
      try have lw3_w_2 : w.heap.size + 1 + 1 < w3.heap.size := by omega
      try have lw3_w_3 : w.heap.size + 1 + 1 + 1 < w3.heap.size := by omega
      try have lw3_w_4 : w.heap.size + 1 + 1 + 1 + 1 < w3.heap.size := by omega
      try have lw3_w_5 : w.heap.size + 1 + 1 + 1 + 1 + 1 < w3.heap.size := by omega
      try have lw3_w_6 : w.heap.size + 1 + 1 + 1 + 1 + 1 + 1 < w3.heap.size := by omega
      try have lw3_w1_0 : w1.heap.size < w3.heap.size := by omega
      try have lw3_w1_1 : w1.heap.size + 1 < w3.heap.size := by omega
      try have lw3_w1_2 : w1.heap.size + 1 + 1 < w3.heap.size := by omega
      try have lw3_w1_3 : w1.heap.size + 1 + 1 + 1 < w3.heap.size := by omega
      try have lw3_w1_4 : w1.heap.size + 1 + 1 + 1 + 1 < w3.heap.size := by omega
      try have lw3_w1_5 : w1.heap.size + 1 + 1 + 1 + 1 + 1 < w3.heap.size := by omega
      try have lw3_w1_6 : w1.heap.size + 1 + 1 + 1 + 1 + 1 + 1 < w3.heap.size := by omega
      try have lw3_w2_0 : w2.heap.size < w3.heap.size := by omega
      try have lw3_w2_1 : w2.heap.size + 1 < w3.heap.size := by omega
      try have lw3_w2_2 : w2.heap.size + 1 + 1 < w3.heap.size := by omega
      try have lw3_w2_3 : w2.heap.size + 1 + 1 + 1 < w3.heap.size := by omega
      try have lw3_w2_4 : w2.heap.size + 1 + 1 + 1 + 1 < w3.heap.size := by omega
      try have lw3_w2_5 : w2.heap.size + 1 + 1 + 1 + 1 + 1 < w3.heap.size := by omega
      try have lw3_w2_6 : w2.heap.size + 1 + 1 + 1 + 1 + 1 + 1 < w3.heap.size := by omega
      go_wp2_with fail
      have hM3 : Mats (w3.alloc (.cells #[.int .i64 (tX n a b + x), .int .i64 (tY n a b + y)] 36)) := by
        refine hM.below ?_ hM.size
        (repeat (first | (with_reducible exact Below.refl _ _) | (with_reducible refine Ext.drewN ?_ _) | (with_reducible refine Below.drew ?_) | (with_reducible refine Ext.alloc ?_ _) | (with_reducible refine Ext.setCell ?_ (by simp; try omega) _) | (with_reducible refine Ext.trans ?_ (by assumption)) | (with_reducible assumption) | exact Below.refl _ _))
      go_call (tImage_any) as e w4 ⟨rfl, bw4⟩
      obtain ⟨sw4, zw4, cw4, fw4⟩ := bcell bw4
      try simp only [World.size_alloc, World.size_setCell, World.size_drew] at sw4
      try have lw4_w_0 : w.heap.size < w4.heap.size := by omega
      try have lw4_w_1 : w.heap.size + 1 < w4.heap.size := by omega
      try have lw4_w_2 : w.heap.size + 1 + 1 < w4.heap.size := by omega
      try have lw4_w_3 : w.heap.size + 1 + 1 + 1 < w4.heap.size := by omega
      try have lw4_w_4 : w.heap.size + 1 + 1 + 1 + 1 < w4.heap.size := by omega
      try have lw4_w_5 : w.heap.size + 1 + 1 + 1 + 1 + 1 < w4.heap.size := by omega
      try have lw4_w_6 : w.heap.size + 1 + 1 + 1 + 1 + 1 + 1 < w4.heap.size := by omega
      try have lw4_w1_0 : w1.heap.size < w4.heap.size := by omega
      try have lw4_w1_1 : w1.heap.size + 1 < w4.heap.size := by omega
      try have lw4_w1_2 : w1.heap.size + 1 + 1 < w4.heap.size := by omega
      try have lw4_w1_3 : w1.heap.size + 1 + 1 + 1 < w4.heap.size := by omega
      try have lw4_w1_4 : w1.heap.size + 1 + 1 + 1 + 1 < w4.heap.size := by omega
      try have lw4_w1_5 : w1.heap.size + 1 + 1 + 1 + 1 + 1 < w4.heap.size := by omega
      try have lw4_w1_6 : w1.heap.size + 1 + 1 + 1 + 1 + 1 + 1 < w4.heap.size := by omega
      try have lw4_w2_0 : w2.heap.size < w4.heap.size := by omega
      try have lw4_w2_1 : w2.heap.size + 1 < w4.heap.size := by omega
      try have lw4_w2_2 : w2.heap.size + 1 + 1 < w4.heap.size := by omega
      try have lw4_w2_3 : w2.heap.size + 1 + 1 + 1 < w4.heap.size := by omega
      try have lw4_w2_4 : w2.heap.size + 1 + 1 + 1 + 1 < w4.heap.size := by omega
      try have lw4_w2_5 : w2.heap.size + 1 + 1 + 1 + 1 + 1 < w4.heap.size := by omega
      try have lw4_w2_6 : w2.heap.size + 1 + 1 + 1 + 1 + 1 + 1 < w4.heap.size := by omega
      try have lw4_w3_0 : w3.heap.size < w4.heap.size := by omega
      try have lw4_w3_1 : w3.heap.size + 1 < w4.heap.size := by omega
      try have lw4_w3_2 : w3.heap.size + 1 + 1 < w4.heap.size := by omega
      try have lw4_w3_3 : w3.heap.size + 1 + 1 + 1 < w4.heap.size := by omega
      try have lw4_w3_4 : w3.heap.size + 1 + 1 + 1 + 1 < w4.heap.size := by omega
      try have lw4_w3_5 : w3.heap.size + 1 + 1 + 1 + 1 + 1 < w4.heap.size := by omega
      try have lw4_w3_6 : w3.heap.size + 1 + 1 + 1 + 1 + 1 + 1 < w4.heap.size := by omega
      go_wp2_with fail
      refine bodyPost_ret (v := .tuple #[.agg #[.int .i64 (mcX n x a b), .int .i64 (mcY n y a b)], .bool true]) (by simp [*, results, Tryd.results31, go_sem, mcX, mcY]) rfl ⟨rfl, ?_⟩
      (repeat (first | (with_reducible exact Below.refl _ _) | (with_reducible refine Ext.drewN ?_ _) | (with_reducible refine Below.drew ?_) | (with_reducible refine Ext.alloc ?_ _) | (with_reducible refine Ext.setCell ?_ (by simp; try omega) _) | (with_reducible refine Ext.trans ?_ (by assumption)) | (with_reducible assumption) | exact Below.refl _ _))
end Go.Proofs.YtliaconoppnclaaDoor
