/- FindTransform: what both answer, and the program's. Conditions: the points' cells are in memory; the variable orientationMatrices holds its table. -/
import Derived.Test.YtlbanaoabifaiaaDoorTrV
namespace Go.Proofs.YtlbanaoabifaiaaDoor
open Go.RowKit
set_option linter.unusedVariables false
set_option linter.unusedSimpArgs false
attribute [local go_sem ↓] Go.wp_at_zero Go.wp_at_succ

def fit (X Y U V : Nat → Int) (n o : Nat) : Bool := mapB o (U 0 - tX o (X 0) (Y 0)) (V 0 - tY o (X 0) (Y 0)) X Y U V n
def fo (X Y U V : Nat → Int) (n : Nat) : Nat := if fit X Y U V n 0 = true then 0 else if fit X Y U V n 1 = true then 1 else if fit X Y U V n 2 = true then 2 else if fit X Y U V n 3 = true then 3 else if fit X Y U V n 4 = true then 4 else if fit X Y U V n 5 = true then 5 else if fit X Y U V n 6 = true then 6 else if fit X Y U V n 7 = true then 7 else 8
theorem fo_at {X Y U V : Nat → Int} {n o : Nat} (ho : o < 8) (h : fit X Y U V n o = true) (hk : ∀ k, k < o → fit X Y U V n k = false) : fo X Y U V n = o := by
  unfold fo
  rcases (show o = 0 ∨ o = 1 ∨ o = 2 ∨ o = 3 ∨ o = 4 ∨ o = 5 ∨ o = 6 ∨ o = 7 by omega) with rfl | rfl | rfl | rfl | rfl | rfl | rfl | rfl <;> simp [h, hk]
theorem fo_none {X Y U V : Nat → Int} {n : Nat} (hk : ∀ k, k < 8 → fit X Y U V n k = false) : fo X Y U V n = 8 := by
  unfold fo; simp [hk]
def fpre (X Y U V : Nat → Int) (n m : Nat) : Bool := decide (0 < n) && decide (n ≤ 8) && decide (m = n) && allOn X Y n && allOn U V n
def fB (X Y U V : Nat → Int) (n m : Nat) : Bool := fpre X Y U V n m && decide (fo X Y U V n < 8)
def f0 (X Y U V : Nat → Int) (n m : Nat) : Int := if fB X Y U V n m = true then (fo X Y U V n : Nat) else 0
def f1 (X Y U V : Nat → Int) (n m : Nat) : Int := if fB X Y U V n m = true then U 0 - tX (fo X Y U V n) (X 0) (Y 0) else 0
def f2 (X Y U V : Nat → Int) (n m : Nat) : Int := if fB X Y U V n m = true then V 0 - tY (fo X Y U V n) (X 0) (Y 0) else 0
theorem f_no {X Y U V : Nat → Int} {n m : Nat} (h : fB X Y U V n m = false) : f0 X Y U V n m = 0 ∧ f1 X Y U V n m = 0 ∧ f2 X Y U V n m = 0 ∧ fB X Y U V n m = false := by
  simp [f0, f1, f2, h]
theorem f_no_pre {X Y U V : Nat → Int} {n m : Nat} (h : fpre X Y U V n m = false) : f0 X Y U V n m = 0 ∧ f1 X Y U V n m = 0 ∧ f2 X Y U V n m = 0 ∧ fB X Y U V n m = false :=
  f_no (by simp [fB, h])
theorem f_no_fo {X Y U V : Nat → Int} {n m : Nat} (hk : ∀ k, k < 8 → fit X Y U V n k = false) : f0 X Y U V n m = 0 ∧ f1 X Y U V n m = 0 ∧ f2 X Y U V n m = 0 ∧ fB X Y U V n m = false :=
  f_no (by simp [fB, fo_none hk])
theorem f_yes {X Y U V : Nat → Int} {n m o : Nat} (hp : fpre X Y U V n m = true) (ho : o < 8) (h : fit X Y U V n o = true) (hk : ∀ k, k < o → fit X Y U V n k = false) : f0 X Y U V n m = (o : Nat) ∧ f1 X Y U V n m = U 0 - tX o (X 0) (Y 0) ∧ f2 X Y U V n m = V 0 - tY o (X 0) (Y 0) ∧ fB X Y U V n m = true := by
  have e := fo_at ho h hk
  have hb : fB X Y U V n m = true := by simp [fB, hp, e, ho]
  simp [f0, f1, f2, hb, e]
/-- What FindTransform hands back. -/
def Found (X Y U V : Nat → Int) (n m : Nat) (w : World) (e : Ending) (w' : World) : Prop :=
  e = .returned (.tuple #[.agg #[.int .i64 (f0 X Y U V n m), .int .i64 (f1 X Y U V n m), .int .i64 (f2 X Y U V n m)], .bool (fB X Y U V n m)]) ∧ Below w.heap.size w w'
theorem found_no {X Y U V : Nat → Int} {n m : Nat} {w w' : World} (h : f0 X Y U V n m = 0 ∧ f1 X Y U V n m = 0 ∧ f2 X Y U V n m = 0 ∧ fB X Y U V n m = false) (hb : Below w.heap.size w w') :
    Found X Y U V n m w (.returned (.tuple #[.agg #[.int .i64 0, .int .i64 0, .int .i64 0], .bool false])) w' := by
  obtain ⟨h0, h1, h2, h3⟩ := h
  exact ⟨by rw [h0, h1, h2, h3], hb⟩
theorem found_yes {X Y U V : Nat → Int} {n m o : Nat} {w w' : World} (h : f0 X Y U V n m = (o : Nat) ∧ f1 X Y U V n m = U 0 - tX o (X 0) (Y 0) ∧ f2 X Y U V n m = V 0 - tY o (X 0) (Y 0) ∧ fB X Y U V n m = true) (hb : Below w.heap.size w w') :
    Found X Y U V n m w (.returned (.tuple #[.agg #[.int .i64 (o : Nat), .int .i64 (U 0 - tX o (X 0) (Y 0)), .int .i64 (V 0 - tY o (X 0) (Y 0))], .bool true])) w' := by
  obtain ⟨h0, h1, h2, h3⟩ := h
  exact ⟨by rw [h0, h1, h2, h3], hb⟩
theorem fpre_f1 {X Y U V : Nat → Int} {n m : Nat} (h : ¬ 0 < n) : fpre X Y U V n m = false := by simp [fpre]; omega
theorem fpre_f2 {X Y U V : Nat → Int} {n m : Nat} (h : ¬ n ≤ 8) : fpre X Y U V n m = false := by simp [fpre]; omega
theorem fpre_f3 {X Y U V : Nat → Int} {n m : Nat} (h : ¬ m = n) : fpre X Y U V n m = false := by simp [fpre, h]
theorem fpre_f4 {X Y U V : Nat → Int} {n m : Nat} (h : allOn X Y n = false) : fpre X Y U V n m = false := by simp [fpre, h]
theorem fpre_f5 {X Y U V : Nat → Int} {n m : Nat} (h : allOn U V n = false) : fpre X Y U V n m = false := by simp [fpre, h]
theorem fpre_t {X Y U V : Nat → Int} {n : Nat} (h1 : 0 < n) (h2 : n ≤ 8) (h4 : allOn X Y n = true) (h5 : allOn U V n = true) : fpre X Y U V n n = true := by simp [fpre, h1, h2, h4, h5]

set_option maxHeartbeats 8000000 in
theorem implFT_any (a b : Option Addr) (n m c1 c2 : Nat) (X Y U V : Nat → Int) (w : World) (hM : Mats w) (hn : n ≤ 1048576) (hm : m ≤ 1048576) (hP : PtsIs w.heap.size w a n X Y) (hQ : PtsIs w.heap.size w b m U V) :
    Calls Tryd.prog 12 #[.slice a n c1, .slice b m c2] w (Found X Y U V n m w) := by
  by_cases hn0 : n = 0
  · subst hn0
    go_enter Tryd.func12, Tryd.ntmps12
    go_wp2_with fail
    refine bodyPost_ret (v := .tuple #[.agg #[.int .i64 0, .int .i64 0, .int .i64 0], .bool false]) (by simp [*, results, Tryd.results12, go_sem]) rfl (found_no (f_no_pre (fpre_f1 (by omega))) ?_)
    (repeat (first | (with_reducible exact Below.refl _ _) | (with_reducible refine Ext.drewN ?_ _) | (with_reducible refine Below.drew ?_) | (with_reducible refine Ext.alloc ?_ _) | (with_reducible refine Ext.setCell ?_ (by simp; try omega) _) | (with_reducible refine Ext.trans ?_ (by assumption)) | (with_reducible assumption) | exact Below.refl _ _))
  have p0 : ((n : Int) == 0) = false := by simp; omega
  by_cases hn8 : 8 < n
  · have p1 : (8 : Int) < (n : Int) := by omega
    go_enter Tryd.func12, Tryd.ntmps12
    go_wp2_with fail
    refine bodyPost_ret (v := .tuple #[.agg #[.int .i64 0, .int .i64 0, .int .i64 0], .bool false]) (by simp [*, results, Tryd.results12, go_sem]) rfl (found_no (f_no_pre (fpre_f2 (by omega))) ?_)
    (repeat (first | (with_reducible exact Below.refl _ _) | (with_reducible refine Ext.drewN ?_ _) | (with_reducible refine Below.drew ?_) | (with_reducible refine Ext.alloc ?_ _) | (with_reducible refine Ext.setCell ?_ (by simp; try omega) _) | (with_reducible refine Ext.trans ?_ (by assumption)) | (with_reducible assumption) | exact Below.refl _ _))
  have p1 : ¬ (8 : Int) < (n : Int) := by omega
  by_cases hmn : m = n
  case neg =>
    have p2 : ((m : Int) == (n : Int)) = false := by simp; omega
    have p3 : ((m : Int) != (n : Int)) = true := by simp; omega
    go_enter Tryd.func12, Tryd.ntmps12
    go_wp2_with fail
    refine bodyPost_ret (v := .tuple #[.agg #[.int .i64 0, .int .i64 0, .int .i64 0], .bool false]) (by simp [*, results, Tryd.results12, go_sem]) rfl (found_no (f_no_pre (fpre_f3 hmn)) ?_)
    (repeat (first | (with_reducible exact Below.refl _ _) | (with_reducible refine Ext.drewN ?_ _) | (with_reducible refine Below.drew ?_) | (with_reducible refine Ext.alloc ?_ _) | (with_reducible refine Ext.setCell ?_ (by simp; try omega) _) | (with_reducible refine Ext.trans ?_ (by assumption)) | (with_reducible assumption) | exact Below.refl _ _))
  subst hmn
  have hP1 := fun o => hP.ext (((Below.refl _ _).alloc (Nat.le_refl _) o))
  have hQ1 := fun o => hQ.ext (((Below.refl _ _).alloc (Nat.le_refl _) o))
  have HP := Lib.hid hP
  have HQ := Lib.hid hQ
  have HP1 := Lib.hid hP1
  have HQ1 := Lib.hid hQ1
  clear hP hQ hP1 hQ1
  cases h4 : allOn X Y m with
  | false =>
    go_enter Tryd.func12, Tryd.ntmps12
    go_wp2_with fail
    refine (areOnChip_any a m c1 X Y _ hn (HP1.out _)).mono ?_
    rintro e w1 ⟨rfl, bw1⟩
    obtain ⟨sw1, zw1, cw1, fw1⟩ := bcell bw1; (try simp only [World.size_alloc, World.size_setCell, World.size_drew] at sw1)
    rw [h4]
    go_wp2_with fail
    refine bodyPost_ret (v := .tuple #[.agg #[.int .i64 0, .int .i64 0, .int .i64 0], .bool false]) (by simp [*, results, Tryd.results12, go_sem]) rfl (found_no (f_no_pre (fpre_f4 h4)) ?_)
    (repeat (first | (with_reducible exact Below.refl _ _) | (with_reducible refine Ext.drewN ?_ _) | (with_reducible refine Below.drew ?_) | (with_reducible refine Ext.alloc ?_ _) | (with_reducible refine Ext.setCell ?_ (by simp; try omega) _) | (with_reducible refine Ext.trans ?_ (by assumption)) | (with_reducible assumption) | exact Below.refl _ _))
  | true =>
  cases h5 : allOn U V m with
  | false =>
    go_enter Tryd.func12, Tryd.ntmps12
    go_wp2_with fail
    refine (areOnChip_any a m c1 X Y _ hn (HP1.out _)).mono ?_
    rintro e w1 ⟨rfl, bw1⟩
    obtain ⟨sw1, zw1, cw1, fw1⟩ := bcell bw1; (try simp only [World.size_alloc, World.size_setCell, World.size_drew] at sw1)
    have l0 : w.heap.size < w1.heap.size := by omega
    rw [h4]
    go_wp2_with fail
    refine (areOnChip_any b m c2 U V _ hm ((HQ1.out _).ext bw1)).mono ?_
    rintro e w2 ⟨rfl, bw2⟩
    obtain ⟨sw2, zw2, cw2, fw2⟩ := bcell bw2; (try simp only [World.size_alloc, World.size_setCell, World.size_drew] at sw2)
    have l1 : w.heap.size < w2.heap.size := by omega
    rw [h5]
    go_wp2_with fail
    refine bodyPost_ret (v := .tuple #[.agg #[.int .i64 0, .int .i64 0, .int .i64 0], .bool false]) (by simp [*, results, Tryd.results12, go_sem]) rfl (found_no (f_no_pre (fpre_f5 h5)) ?_)
    (repeat (first | (with_reducible exact Below.refl _ _) | (with_reducible refine Ext.drewN ?_ _) | (with_reducible refine Below.drew ?_) | (with_reducible refine Ext.alloc ?_ _) | (with_reducible refine Ext.setCell ?_ (by simp; try omega) _) | (with_reducible refine Ext.trans ?_ (by assumption)) | (with_reducible assumption) | exact Below.refl _ _))
  | true =>
    have hpre : fpre X Y U V m m = true := fpre_t (by omega) (by omega) h4 h5
    have HPRE := Lib.hid hpre
    clear hpre
    have hon : ∀ i, i < m → (-40 ≤ X i ∧ X i ≤ 40) ∧ (-40 ≤ Y i ∧ Y i ≤ 40) := fun i hi => onB_t (allOn_at h4 hi)
    have hon2 : ∀ i, i < m → (-40 ≤ U i ∧ U i ≤ 40) ∧ (-40 ≤ V i ∧ V i ≤ 40) := fun i hi => onB_t (allOn_at h5 hi)
    obtain ⟨⟨x1, x2⟩, x3, x4⟩ := hon 0 (by omega)
    obtain ⟨⟨u1, u2⟩, u3, u4⟩ := hon2 0 (by omega)
    have HON := Lib.hid hon
    clear hon hon2
    have q1 : (0 : Int) < (m : Int) := by omega
    have q1n : 0 < m := by omega
    go_enter Tryd.func12, Tryd.ntmps12
    go_wp2_with fail
    refine (areOnChip_any a m c1 X Y _ hn (HP1.out _)).mono ?_
    rintro e w1 ⟨rfl, bw1⟩
    obtain ⟨sw1, zw1, cw1, fw1⟩ := bcell bw1; (try simp only [World.size_alloc, World.size_setCell, World.size_drew] at sw1)
    have l0 : w.heap.size < w1.heap.size := by omega
    rw [h4]
    go_wp2_with fail
    refine (areOnChip_any b m c2 U V _ hm ((HQ1.out _).ext bw1)).mono ?_
    rintro e w2 ⟨rfl, bw2⟩
    obtain ⟨sw2, zw2, cw2, fw2⟩ := bcell bw2; (try simp only [World.size_alloc, World.size_setCell, World.size_drew] at sw2)
    have l1 : w.heap.size < w2.heap.size := by omega
    rw [h5]
    have z0 : w2.cell? ⟨w.heap.size, 0, none⟩ = some (.int .i64 0) := keepC bw2 (keepC bw1 (by simp))
    have z1 : w2.cell? ⟨w.heap.size, 1, none⟩ = some (.int .i64 0) := keepC bw2 (keepC bw1 (by simp))
    have z2 : w2.cell? ⟨w.heap.size, 2, none⟩ = some (.int .i64 0) := keepC bw2 (keepC bw1 (by simp))
    have r0 : w2.frozen? ⟨w.heap.size, 0, none⟩ = false := by rw [fw2 _ _ l0, fw1 _ _ (by simp)]; simp
    have r1 : w2.frozen? ⟨w.heap.size, 1, none⟩ = false := by rw [fw2 _ _ l0, fw1 _ _ (by simp)]; simp
    have r2 : w2.frozen? ⟨w.heap.size, 2, none⟩ = false := by rw [fw2 _ _ l0, fw1 _ _ (by simp)]; simp
    have B2 : Below w.heap.size w w2 := by (repeat (first | (with_reducible exact Below.refl _ _) | (with_reducible refine Ext.drewN ?_ _) | (with_reducible refine Below.drew ?_) | (with_reducible refine Ext.alloc ?_ _) | (with_reducible refine Ext.setCell ?_ (by simp; try omega) _) | (with_reducible refine Ext.trans ?_ (by assumption)) | (with_reducible assumption) | exact Below.refl _ _))
    clear bw1 zw1 cw1 fw1 bw2 zw2 cw2 fw2
    go_wp2_with fail
    go_loopw [35] (fun s5 wr => ∃ k : Nat, k ≤ 8 ∧ s5 = .int .i64 k ∧ w.heap.size < wr.heap.size ∧ Below w.heap.size w wr ∧ wr.cell? ⟨w.heap.size, 0, none⟩ = some (.int .i64 0) ∧ wr.cell? ⟨w.heap.size, 1, none⟩ = some (.int .i64 0) ∧ wr.cell? ⟨w.heap.size, 2, none⟩ = some (.int .i64 0) ∧ wr.frozen? ⟨w.heap.size, 0, none⟩ = false ∧ wr.frozen? ⟨w.heap.size, 1, none⟩ = false ∧ wr.frozen? ⟨w.heap.size, 2, none⟩ = false ∧ ∀ j, j < k → fit X Y U V m j = false) (fun s5 _ => 8 - (intOf s5).toNat)
    case atStart => exact ⟨0, by omega, rfl, l1, B2, z0, z1, z2, r0, r1, r2, fun k hk => absurd hk (by omega)⟩
    case round =>
      clear z0 z1 z2 r0 r1 r2 B2
      obtain ⟨k, hk, rfl, hsz, hW, z0, z1, z2, r0, r1, r2, hfit⟩ := hrel
      have HF := Lib.hid hfit
      clear hfit
      by_cases hk8 : k < 8
      · obtain ⟨b1, o1, rfl, hb1, cx, cy⟩ := HP.out.below hW 0 (by omega)
        obtain ⟨b2, o2, rfl, hb2, dx, dy⟩ := HQ.out.below hW 0 (by omega)
        simp only [Nat.zero_mul, Nat.add_zero] at cx cy dx dy
        have q2 : (k : Int) < 8 := by omega
        have q3 : (0 : Int) ≤ (k : Int) := by omega
        have hMr : Mats wr := hM.below hW hM.size
        obtain ⟨⟨t1, t2⟩, t3, t4⟩ := t_bd k (X 0) (Y 0) 40 x1 x2 x3 x4
        go_wp2_with fail
        refine (oImage_any k (X 0) (Y 0) _ hk8 hMr (by omega) (by omega) (by omega) (by omega)).mono ?_
        rintro e w3 ⟨rfl, bw3⟩
        have Z0 := keepC bw3 z0
        have Z1 := keepC bw3 z1
        have Z2 := keepC bw3 z2
        have R0 : w3.frozen? ⟨w.heap.size, 0, none⟩ = false := (bw3.frozen hsz).trans r0
        have R1 : w3.frozen? ⟨w.heap.size, 1, none⟩ = false := (bw3.frozen hsz).trans r1
        have R2 : w3.frozen? ⟨w.heap.size, 2, none⟩ = false := (bw3.frozen hsz).trans r2
        have Dx := keepC bw3 dx
        have Dy := keepC bw3 dy
        have s3 := bw3.size
        have B3 : Below w.heap.size w w3 := Below.trans hW (bw3.mono (by omega))
        have l3 : w.heap.size < w3.heap.size := by omega
        clear bw3
        go_upto_region 7 with fail
        have Dx' := keepA Dx (.cells #[.int .i64 (tX k (X 0) (Y 0)), .int .i64 (tY k (X 0) (Y 0))] 32)
        have Dy' := keepA Dy (.cells #[.int .i64 (tX k (X 0) (Y 0)), .int .i64 (tY k (X 0) (Y 0))] 32)
        go_region_held3 (fun w' => w'.cell? ⟨b2, o2, none⟩ = some (.int .i64 (U 0)) ∧ w'.cell? ⟨b2, o2 + 1, none⟩ = some (.int .i64 (V 0)) ∧ w'.cell? ⟨w3.heap.size, 0, none⟩ = some (.int .i64 (tX k (X 0) (Y 0))) ∧ w'.cell? ⟨w3.heap.size, 1, none⟩ = some (.int .i64 (tY k (X 0) (Y 0))))
          (first | ((try dsimp only); go_split_ands; (repeat' (with_reducible refine And.intro ?_ ?_)) <;> first | ((repeat (with_reducible refine keepS ?_ (by simp; try omega) _)); (first | (with_reducible assumption) | (with_reducible exact keepC (by assumption) (by assumption)) | (with_reducible exact keepA (by assumption) _) | (with_reducible exact keepR (by assumption) (by omega) _))) | ((try simp only [World.size_alloc, World.size_setCell, World.size_drew]); omega) | (refine Mats.below hM ?_ hM.size; (repeat (first | (with_reducible exact Below.refl _ _) | (with_reducible refine Ext.drewN ?_ _) | (with_reducible refine Below.drew ?_) | (with_reducible refine Ext.alloc ?_ _) | (with_reducible refine Ext.setCell ?_ (by simp; try omega) _) | (with_reducible refine Ext.trans ?_ (by assumption)) | (with_reducible assumption) | exact Below.refl _ _)); done) | ((repeat (first | (with_reducible exact Below.refl _ _) | (with_reducible refine Ext.drewN ?_ _) | (with_reducible refine Below.drew ?_) | (with_reducible refine Ext.alloc ?_ _) | (with_reducible refine Ext.setCell ?_ (by simp; try omega) _) | (with_reducible refine Ext.trans ?_ (by assumption)) | (with_reducible assumption) | exact Below.refl _ _)); done) | (go_keep; done)))
          (fail)
        go_wp2_with fail
        have BB : Below w.heap.size w (((w3.alloc (.cells #[.int .i64 (tX k (X 0) (Y 0)), .int .i64 (tY k (X 0) (Y 0))] 32)).alloc (.cells #[.int .i64 k, .int .i64 (U 0 - tX k (X 0) (Y 0)), .int .i64 (V 0 - tY k (X 0) (Y 0))] 25)).drew) := by (repeat (first | (with_reducible exact Below.refl _ _) | (with_reducible refine Ext.drewN ?_ _) | (with_reducible refine Below.drew ?_) | (with_reducible refine Ext.alloc ?_ _) | (with_reducible refine Ext.setCell ?_ (by simp; try omega) _) | (with_reducible refine Ext.trans ?_ (by assumption)) | (with_reducible assumption) | exact Below.refl _ _))
        have hMc : Mats (((w3.alloc (.cells #[.int .i64 (tX k (X 0) (Y 0)), .int .i64 (tY k (X 0) (Y 0))] 32)).alloc (.cells #[.int .i64 k, .int .i64 (U 0 - tX k (X 0) (Y 0)), .int .i64 (V 0 - tY k (X 0) (Y 0))] 25)).drew) := hM.below BB hM.size
        have hPc := HP.out.ext BB
        have hQc := HQ.out.ext BB
        refine (mapsAll_any k (U 0 - tX k (X 0) (Y 0)) (V 0 - tY k (X 0) (Y 0)) _ _ m c1 c2 X Y U V _ hk8 hMc (by omega) (by omega) (by omega) (by omega) (by omega) (fun i hi => ⟨⟨by have := HON.out i hi; omega, by have := HON.out i hi; omega⟩, ⟨by have := HON.out i hi; omega, by have := HON.out i hi; omega⟩⟩) hPc hQc).mono ?_
        rintro e w4 ⟨rfl, bw4⟩
        have s4 := bw4.size
        simp only [World.size_alloc, World.size_drew] at s4
        have A0 : w4.cell? ⟨w.heap.size, 0, none⟩ = some (.int .i64 0) := keepC bw4 (show (((w3.alloc (.cells #[.int .i64 (tX k (X 0) (Y 0)), .int .i64 (tY k (X 0) (Y 0))] 32)).alloc (.cells #[.int .i64 k, .int .i64 (U 0 - tX k (X 0) (Y 0)), .int .i64 (V 0 - tY k (X 0) (Y 0))] 25)).drew).cell? ⟨w.heap.size, 0, none⟩ = _ from keepA (keepA Z0 _) _)
        have A1 : w4.cell? ⟨w.heap.size, 1, none⟩ = some (.int .i64 0) := keepC bw4 (show (((w3.alloc (.cells #[.int .i64 (tX k (X 0) (Y 0)), .int .i64 (tY k (X 0) (Y 0))] 32)).alloc (.cells #[.int .i64 k, .int .i64 (U 0 - tX k (X 0) (Y 0)), .int .i64 (V 0 - tY k (X 0) (Y 0))] 25)).drew).cell? ⟨w.heap.size, 1, none⟩ = _ from keepA (keepA Z1 _) _)
        have A2 : w4.cell? ⟨w.heap.size, 2, none⟩ = some (.int .i64 0) := keepC bw4 (show (((w3.alloc (.cells #[.int .i64 (tX k (X 0) (Y 0)), .int .i64 (tY k (X 0) (Y 0))] 32)).alloc (.cells #[.int .i64 k, .int .i64 (U 0 - tX k (X 0) (Y 0)), .int .i64 (V 0 - tY k (X 0) (Y 0))] 25)).drew).cell? ⟨w.heap.size, 2, none⟩ = _ from keepA (keepA Z2 _) _)
        have F0 : w4.frozen? ⟨w.heap.size, 0, none⟩ = false := (bw4.frozen (by simp; omega)).trans (show (((w3.alloc (.cells #[.int .i64 (tX k (X 0) (Y 0)), .int .i64 (tY k (X 0) (Y 0))] 32)).alloc (.cells #[.int .i64 k, .int .i64 (U 0 - tX k (X 0) (Y 0)), .int .i64 (V 0 - tY k (X 0) (Y 0))] 25)).drew).frozen? ⟨w.heap.size, 0, none⟩ = false by simp [R0, go_sem, l3])
        have F1 : w4.frozen? ⟨w.heap.size, 1, none⟩ = false := (bw4.frozen (by simp; omega)).trans (show (((w3.alloc (.cells #[.int .i64 (tX k (X 0) (Y 0)), .int .i64 (tY k (X 0) (Y 0))] 32)).alloc (.cells #[.int .i64 k, .int .i64 (U 0 - tX k (X 0) (Y 0)), .int .i64 (V 0 - tY k (X 0) (Y 0))] 25)).drew).frozen? ⟨w.heap.size, 1, none⟩ = false by simp [R1, go_sem, l3])
        have F2 : w4.frozen? ⟨w.heap.size, 2, none⟩ = false := (bw4.frozen (by simp; omega)).trans (show (((w3.alloc (.cells #[.int .i64 (tX k (X 0) (Y 0)), .int .i64 (tY k (X 0) (Y 0))] 32)).alloc (.cells #[.int .i64 k, .int .i64 (U 0 - tX k (X 0) (Y 0)), .int .i64 (V 0 - tY k (X 0) (Y 0))] 25)).drew).frozen? ⟨w.heap.size, 2, none⟩ = false by simp [R2, go_sem, l3])
        have G0 : w4.cell? ⟨w3.heap.size + 1, 0, none⟩ = some (.int .i64 (k)) := keepC bw4 (show (((w3.alloc (.cells #[.int .i64 (tX k (X 0) (Y 0)), .int .i64 (tY k (X 0) (Y 0))] 32)).alloc (.cells #[.int .i64 k, .int .i64 (U 0 - tX k (X 0) (Y 0)), .int .i64 (V 0 - tY k (X 0) (Y 0))] 25)).drew).cell? ⟨w3.heap.size + 1, 0, none⟩ = _ by simp [go_sem])
        have G1 : w4.cell? ⟨w3.heap.size + 1, 1, none⟩ = some (.int .i64 (U 0 - tX k (X 0) (Y 0))) := keepC bw4 (show (((w3.alloc (.cells #[.int .i64 (tX k (X 0) (Y 0)), .int .i64 (tY k (X 0) (Y 0))] 32)).alloc (.cells #[.int .i64 k, .int .i64 (U 0 - tX k (X 0) (Y 0)), .int .i64 (V 0 - tY k (X 0) (Y 0))] 25)).drew).cell? ⟨w3.heap.size + 1, 1, none⟩ = _ by simp [go_sem])
        have G2 : w4.cell? ⟨w3.heap.size + 1, 2, none⟩ = some (.int .i64 (V 0 - tY k (X 0) (Y 0))) := keepC bw4 (show (((w3.alloc (.cells #[.int .i64 (tX k (X 0) (Y 0)), .int .i64 (tY k (X 0) (Y 0))] 32)).alloc (.cells #[.int .i64 k, .int .i64 (U 0 - tX k (X 0) (Y 0)), .int .i64 (V 0 - tY k (X 0) (Y 0))] 25)).drew).cell? ⟨w3.heap.size + 1, 2, none⟩ = _ by simp [go_sem])
        have B4 : Below w.heap.size w w4 := Ext.trans BB bw4
        have l4 : w.heap.size < w4.heap.size := by omega
        clear Dx Dy Dx' Dy' Z0 Z1 Z2 R0 R1 R2 bw4 BB hMc hPc hQc
        cases hfk : fit X Y U V m k with
        | false =>
          have hmb : mapB k (U 0 - tX k (X 0) (Y 0)) (V 0 - tY k (X 0) (Y 0)) X Y U V m = false := hfk
          have HFK := Lib.hid hfk
          clear hfk
          rw [hmb]
          clear hmb
          go_wp2_with fail
          go_roundw
          case rel => exact ⟨k + 1, by omega, by go_num, l4, B4, A0, A1, A2, F0, F1, F2, fun j hj => by
            by_cases e : j = k
            · subst e; exact HFK.out
            · exact HF.out j (by omega)⟩
          case measure => simp [intOf]; omega
        | true =>
          have hmb : mapB k (U 0 - tX k (X 0) (Y 0)) (V 0 - tY k (X 0) (Y 0)) X Y U V m = true := hfk
          have HFK := Lib.hid hfk
          clear hfk
          rw [hmb]
          clear hmb
          go_wp2_with fail
          refine bodyPost_ret (v := .tuple #[.agg #[.int .i64 (k : Nat), .int .i64 (U 0 - tX k (X 0) (Y 0)), .int .i64 (V 0 - tY k (X 0) (Y 0))], .bool true]) (by simp [*, results, Tryd.results12, go_sem]) rfl (found_yes (f_yes HPRE.out hk8 HFK.out HF.out) ?_)
          (repeat (first | (with_reducible exact Below.refl _ _) | (with_reducible refine Ext.drewN ?_ _) | (with_reducible refine Below.drew ?_) | (with_reducible refine Ext.alloc ?_ _) | (with_reducible refine Ext.setCell ?_ (by simp; try omega) _) | (with_reducible refine Ext.trans ?_ (by assumption)) | (with_reducible assumption) | exact Below.refl _ _))
      · obtain rfl : k = 8 := by omega
        go_wp2_with fail
        refine bodyPost_ret (v := .tuple #[.agg #[.int .i64 0, .int .i64 0, .int .i64 0], .bool false]) (by simp [*, results, Tryd.results12, go_sem]) rfl (found_no (f_no_fo HF.out) ?_)
        (repeat (first | (with_reducible exact Below.refl _ _) | (with_reducible refine Ext.drewN ?_ _) | (with_reducible refine Below.drew ?_) | (with_reducible refine Ext.alloc ?_ _) | (with_reducible refine Ext.setCell ?_ (by simp; try omega) _) | (with_reducible refine Ext.trans ?_ (by assumption)) | (with_reducible assumption) | exact Below.refl _ _))
end Go.Proofs.YtlbanaoabifaiaaDoor
