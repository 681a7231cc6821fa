/- FnMoveRegions answers true. Conditions: the code's bytes are in memory; the variables that regions read hold their tables, and the matrices' variable its own. -/
import Derived.Test.YtgccnongfdbalaaDoorQX
import Derived.Test.YtgccnongfdbalaaDoorQU
import Derived.Test.YtgccnongfdbalaaDoorQP
import Derived.Test.YtgccnongfdbalaaDoorQL
import Derived.Test.YtgccnongfdbalaaDoorQI
import Derived.Test.YtgccnongfdbalaaDoorQT
import Derived.ProofKit
import Derived.OpenShut
import Derived.ShutString
import Derived.ChangeOld
import Derived.Carry
import Derived.Below
import Derived.Lib.SmallJoins
import Derived.Lib.LaidU8
import Derived.Test.YtgccnongfdbalaaDoorFacts
import Derived.OpenVars
import Derived.LaidMore
import Derived.Stop.Joined
import Derived.SevenTiedAt
import Derived.Test.YtgccnongfdbalaaDoorTie
import Derived.Test.YtgccnongfdbalaaDoorCards
namespace Go.Proofs.YtgccnongfdbalaaDoor
open Go.RowKit
set_option linter.unusedVariables false
set_option linter.unusedSimpArgs false

theorem canon_of {l : List R4} (h : okR (pA l) (pB l) (pC l) (pD l) l.length = true) : l = canonL (covF (pA l) (pB l) (pC l) (pD l) l.length) := (listR_pA l).symm.trans (okR_list h)
theorem opL_eq (op : Nat) {l m : List R4} {f g : Nat → Bool} (hl : l = canonL f) (hm : m = canonL g) : opL op (pA l) (pB l) (pC l) (pD l) l.length (pA m) (pB m) (pC m) (pD m) m.length = canonL (fun k => tt op (f k) (g k)) := by
  subst hl hm; exact opL_canon op f g
theorem canon_len {l : List R4} {f : Nat → Bool} (hl : l = canonL f) : l.length ≤ 3200 := by subst hl; exact canonL_len' f
theorem mgB_ok {o x y : Int} {l : List R4} (h : mgB o x y (pA l) (pB l) (pC l) (pD l) l.length = true) : okR (pA l) (pB l) (pC l) (pD l) l.length = true := by
  unfold mgB at h
  simp only [Bool.and_eq_true] at h
  exact h.2.1

/-- A transform lies in block g. -/
def BoxT' (w : World) (g : Nat) (o x y : Int) : Prop := w.heap[g]? = some (.cells #[.int .i64 o, .int .i64 x, .int .i64 y] 34 (0, 0))
theorem BoxT'.ext {w w' : World} {g : Nat} {o x y : Int} (h : BoxT' w g o x y) (hb : Below w.heap.size w w') : BoxT' w' g o x y := (hb.block g (blk_lt h)).trans h
theorem BoxT'.cell0 {w : World} {g : Nat} {o x y : Int} (h : BoxT' w g o x y) : w.cell? ⟨g, 0, none⟩ = some (.int .i64 o) := by rw [cell_of_row _ _ 0 _ _ _ h]; rfl
theorem BoxT'.cell1 {w : World} {g : Nat} {o x y : Int} (h : BoxT' w g o x y) : w.cell? ⟨g, 1, none⟩ = some (.int .i64 x) := by rw [cell_of_row _ _ 1 _ _ _ h]; rfl
theorem BoxT'.cell2 {w : World} {g : Nat} {o x y : Int} (h : BoxT' w g o x y) : w.cell? ⟨g, 2, none⟩ = some (.int .i64 y) := by rw [cell_of_row _ _ 2 _ _ _ h]; rfl
/-- A drawn transform and a drawn list. -/
def DrawnTL (w : World) (e : Ending) (w' : World) : Prop :=
  ∃ (o x y : Int) (h c : Nat) (l : List R4), ((0 ≤ o ∧ o ≤ 7) ∧ (-100 ≤ x ∧ x ≤ 100) ∧ (-100 ≤ y ∧ y ≤ 100)) ∧ e = .returned (.tuple #[.agg #[.int .i64 o, .int .i64 x, .int .i64 y], .slice (some ⟨h, 0, none⟩) l.length c]) ∧ l.length ≤ 3284 ∧ RecIs w.heap.size w' h l ∧ Below w.heap.size w w'
set_option maxHeartbeats 4000000 in
theorem drawMoveRegion_any (a : Option Addr) (len cap : Nat) (w : World) (hlen : len ≤ 8192) (hC : CodeIs w.heap.size w a len) :
    Calls Tryd.prog 24 #[.slice a len cap] w (DrawnTL w) := by
  go_enter Tryd.func24, Tryd.ntmps24
  go_wp2_with fail
  refine (l01From_any w.heap.size a len cap _ hlen (by simp) (hC.alloc (Nat.le_refl _) _)).mono ?_
  rintro e w1 ⟨g, hg0, hg1, rfl, bw1, hS1⟩
  simp only [World.size_alloc] at hg0
  have B1 : Below w.heap.size w w1 := by (repeat (first | (with_reducible exact Below.refl _ _) | (with_reducible refine Ext.drewN ?_ _) | (with_reducible refine Below.drew ?_) | (with_reducible refine Ext.alloc ?_ _) | (with_reducible refine Ext.setCell ?_ (by simp; try omega) _) | (with_reducible refine Ext.trans ?_ (by assumption)) | (with_reducible assumption) | exact Below.refl _ _))
  have hC1 : CodeIs w.heap.size w1 a len := hC.below B1
  have s1 := bw1.size
  simp only [World.size_alloc] at s1
  have z0 : w1.heap[w.heap.size]? = some (.cells #[.int .i64 0, .int .i64 0, .int .i64 0] 34 (0, 0)) := (bw1.block _ (by simp)).trans (heap_alloc_new _ _)
  clear bw1
  go_wp2_with fail
  refine (drawT_any w.heap.size g a len cap _ hlen (by omega) (by omega) hC1 hS1).mono ?_
  rintro e w2 ⟨tr, x, y, ho, hx, hy, rfl, on2, hS2⟩
  have s2 := on2.size
  have hC2 := hC1.only on2 (by omega) (by omega)
  have z0 := (on2.block _ (by omega) (fun e => by have : w.heap.size = g := (by simpa using e); omega)).trans z0
  have hgl2 : g < w2.heap.size := by omega
  obtain ⟨w3, hw3⟩ : ∃ w3, w3 = w2.alloc (.cells #[.int .i64 tr, .int .i64 x, .int .i64 y] 34) := ⟨_, rfl⟩
  have b3 : Below w2.heap.size w2 w3 := by rw [hw3]; (repeat (first | (with_reducible exact Below.refl _ _) | (with_reducible refine Ext.drewN ?_ _) | (with_reducible refine Below.drew ?_) | (with_reducible refine Ext.alloc ?_ _) | (with_reducible refine Ext.setCell ?_ (by simp; try omega) _) | (with_reducible refine Ext.trans ?_ (by assumption)) | (with_reducible assumption) | exact Below.refl _ _))
  have s3 : w3.heap.size = w2.heap.size + 1 := by rw [hw3]; simp
  have y0 : w3.heap[w2.heap.size]? = some (.cells #[.int .i64 tr, .int .i64 x, .int .i64 y] 34 (0, 0)) := by rw [hw3]; exact heap_alloc_new _ _
  have z0 := (b3.block _ (by omega)).trans z0
  have A3 : SrcAt w.heap.size g w3 w3 a len cap := by
    have h9 : SrcAt w.heap.size g w2 w3 a len cap := by
      rw [hw3]
      exact (show SrcAt w.heap.size g w2 w2 a len cap from ⟨Only.refl _ _, hS2, hC2, by omega⟩).ext ((Below.refl _ _).alloc (Nat.le_refl _) _)
    exact h9.rebase
  have B3 : Below w.heap.size w w3 := Ext.trans (Only.below B1 on2 (by omega) (by omega)) b3
  have hmix : Tryd.prog.follows .mixedOrders = true := by kernel_rfl
  go_upto_region 3 with fail
  rw [← hw3]
  have A3 := Lib.hid A3
  have B3 := Lib.hid B3
  clear hw3 b3 hS1 hS2 hC1 hC2 on2 B1 hC
  refine (wpIn_wide (n := 9)).1 ?_
  gi_wp2
  have fz := fun j => frozen_of_row _ _ j _ _ z0
  have c0 : w3.cell? ⟨w2.heap.size, 0, none⟩ = some (.int .i64 tr) := by rw [cell_of_row _ _ 0 _ _ _ y0]; rfl
  have c1 : w3.cell? ⟨w2.heap.size, 1, none⟩ = some (.int .i64 x) := by rw [cell_of_row _ _ 1 _ _ _ y0]; rfl
  have c2 : w3.cell? ⟨w2.heap.size, 2, none⟩ = some (.int .i64 y) := by rw [cell_of_row _ _ 2 _ _ _ y0]; rfl
  refine regionT (S := fun w' => w'.heap[w2.heap.size]? = some (.cells #[.int .i64 tr, .int .i64 x, .int .i64 y] 34 (0, 0))) (tl := fun _ => false) hmix ?_
  have hS : w3.drew.heap[w2.heap.size]? = some (.cells #[.int .i64 tr, .int .i64 x, .int .i64 y] 34 (0, 0)) := y0
  refine takeT (i := 0) (.agg #[.int .i64 tr, .int .i64 x, .int .i64 y]) rfl (by kernel_rfl) (by kernel_rfl) (by kernel_rfl) (by kernel_rfl) (by kernel_rfl) (fun _ _ _ h => h) (by rfl) ?_ (fun _ => rfl) hS ?_
  · intro w' h9
    have d0 : w'.cell? ⟨w2.heap.size, 0, none⟩ = some (.int .i64 tr) := by rw [cell_of_row _ _ 0 _ _ _ h9]; rfl
    have d1 : w'.cell? ⟨w2.heap.size, 1, none⟩ = some (.int .i64 x) := by rw [cell_of_row _ _ 1 _ _ _ h9]; rfl
    have d2 : w'.cell? ⟨w2.heap.size, 2, none⟩ = some (.int .i64 y) := by rw [cell_of_row _ _ 2 _ _ _ h9]; rfl
    simp [go_sem, d0, d1, d2, Act.put]
  simp only [go_sem, Act.put, List.getElem_toArray, List.getElem_cons_succ, List.getElem_cons_zero, List.setIfInBounds_toArray, List.set_cons_succ, List.set_cons_zero]
  refine takeT (i := 1) (.pointer (some ⟨g, 0, none⟩)) rfl (by kernel_rfl) (by kernel_rfl) (by kernel_rfl) (by kernel_rfl) (by kernel_rfl) (fun _ _ _ h => h) (by rfl) ?_ (fun _ => rfl) hS ?_
  · intro w' h9
    have d0 : w'.cell? ⟨w2.heap.size, 0, none⟩ = some (.int .i64 tr) := by rw [cell_of_row _ _ 0 _ _ _ h9]; rfl
    have d1 : w'.cell? ⟨w2.heap.size, 1, none⟩ = some (.int .i64 x) := by rw [cell_of_row _ _ 1 _ _ _ h9]; rfl
    have d2 : w'.cell? ⟨w2.heap.size, 2, none⟩ = some (.int .i64 y) := by rw [cell_of_row _ _ 2 _ _ _ h9]; rfl
    simp [go_sem, d0, d1, d2, Act.put]
  simp only [go_sem, Act.put, List.getElem_toArray, List.getElem_cons_succ, List.getElem_cons_zero, List.setIfInBounds_toArray, List.set_cons_succ, List.set_cons_zero]
  refine takeT (i := 2) (.pointer (some ⟨g, 0, none⟩)) rfl (by kernel_rfl) (by kernel_rfl) (by kernel_rfl) (by kernel_rfl) (by kernel_rfl) (fun _ _ _ h => h) (by rfl) ?_ (fun _ => rfl) hS ?_
  · intro w' h9
    have d0 : w'.cell? ⟨w2.heap.size, 0, none⟩ = some (.int .i64 tr) := by rw [cell_of_row _ _ 0 _ _ _ h9]; rfl
    have d1 : w'.cell? ⟨w2.heap.size, 1, none⟩ = some (.int .i64 x) := by rw [cell_of_row _ _ 1 _ _ _ h9]; rfl
    have d2 : w'.cell? ⟨w2.heap.size, 2, none⟩ = some (.int .i64 y) := by rw [cell_of_row _ _ 2 _ _ _ h9]; rfl
    simp [go_sem, d0, d1, d2, Act.put]
  simp only [go_sem, Act.put, List.getElem_toArray, List.getElem_cons_succ, List.getElem_cons_zero, List.setIfInBounds_toArray, List.set_cons_succ, List.set_cons_zero]
  refine oneN (i := 3) (by kernel_rfl) (wpOpIn_step rfl fun K' hK' => ?_)
  rw [if_pos (by rfl)]
  refine ⟨fun _ _ => trivial, ?_⟩
  simp only [go_sem, Act.put]
  simp [go_sem, enters_of Tryd.func76 (by kernel_rfl) rfl]
  refine (callsIn_wide.2 (drawRegion_any w.heap.size g a len cap w3 _ hlen (by omega) (by omega) (show SrcAt w.heap.size g w3 w3.drew a len cap from ⟨A3.out.1.drew, A3.out.2.1, A3.out.2.2.1, A3.out.2.2.2⟩))).mono ?_
  rintro e w4 ⟨h4, c4, f4, rfl, hI4, hA4⟩
  have y4 := (hA4.1.block w2.heap.size (by omega) (fun e => by have : w2.heap.size = g := (by simpa using e); omega)).trans y0
  have z4 := (hA4.1.block w.heap.size (by omega) (fun e => by have : w.heap.size = g := (by simpa using e); omega)).trans z0
  have n4 := canonL_len f4
  have s4 := hA4.1.size
  have I4 := Lib.hid hI4
  have A4 := Lib.hid hA4.rebase
  have O4 := Lib.hid hA4.1
  dsimp only
  refine hK' _ _ ⟨y4, ?_⟩
  clear hK' hI4 hA4 hS
  refine oneN (i := 4) (by kernel_rfl) (wpOpIn_step rfl fun K' hK' => ?_)
  rw [if_pos (by rfl)]
  refine ⟨fun _ _ => trivial, ?_⟩
  simp only [go_sem, Act.put]
  simp [go_sem, enters_of Tryd.func75 (by kernel_rfl) rfl]
  refine (callsIn_wide.2 (spoil_any w3.heap.size w.heap.size g h4 c4 (canonL f4) 12 a len cap w4 w4 hlen (by omega) (by omega) A4.out (by omega) s4 n4 I4.out (by omega) (by omega))).mono ?_
  rintro e w5 ⟨h5, c5, l5, rfl, n5, hI5, hA5⟩
  have y5 := (hA5.1.block w2.heap.size (by omega) (fun e => by have : w2.heap.size = g := (by simpa using e); omega)).trans y4
  have z5 := (hA5.1.block w.heap.size (by omega) (fun e => by have : w.heap.size = g := (by simpa using e); omega)).trans z4
  have I5 := Lib.hid hI5
  have O5 := Lib.hid (O4.out.trans hA5.1)
  have s5 := hA5.1.size
  dsimp only
  refine hK' _ _ ⟨y5, ?_⟩
  clear hK' hI5 hA5
  have r0 : w5.cell? ⟨w.heap.size, 0, none⟩ = some (.int .i64 0) := by rw [cell_of_row _ _ 0 _ _ _ z5]; rfl
  have r1 : w5.cell? ⟨w.heap.size, 1, none⟩ = some (.int .i64 0) := by rw [cell_of_row _ _ 1 _ _ _ z5]; rfl
  have r2 : w5.cell? ⟨w.heap.size, 2, none⟩ = some (.int .i64 0) := by rw [cell_of_row _ _ 2 _ _ _ z5]; rfl
  have e0 := frozen_of_row _ _ 0 _ _ z5
  have e1 := frozen_of_row _ _ 1 _ _ z5
  have e2 := frozen_of_row _ _ 2 _ _ z5
  refine oneN (i := 5) (by kernel_rfl) (wpOpIn_step rfl fun K' hK' => ?_)
  rw [if_pos (by rfl)]
  refine ⟨fun _ _ => trivial, ?_⟩
  simp only [go_sem, Act.put]
  simp [go_sem, r0, r1, r2, e0, e1, e2]
  refine hK' _ _ ⟨(set_other (by omega) _).trans ((set_other (by omega) _).trans ((set_other (by omega) _).trans y5)), ?_⟩
  clear hK'
  refine oneN (i := 6) (by kernel_rfl) (wpOpIn_step rfl fun K' hK' => ?_)
  rw [if_pos (by rfl)]
  refine ⟨fun _ _ => trivial, ?_⟩
  simp only [go_sem, Act.put]
  simp [go_sem]
  refine hK' _ _ ⟨(set_other (by omega) _).trans ((set_other (by omega) _).trans ((set_other (by omega) _).trans y5)), ?_⟩
  clear hK'
  refine doneT (by kernel_rfl) ?_ _
  gi_wp2
  obtain ⟨wF, hwF⟩ : ∃ wF, wF = ((w5.setCell ⟨w.heap.size, 0, none⟩ (.int .i64 tr)).setCell ⟨w.heap.size, 1, none⟩ (.int .i64 x)).setCell ⟨w.heap.size, 2, none⟩ (.int .i64 y) := ⟨_, rfl⟩
  have zF : wF.heap[w.heap.size]? = some (.cells #[.int .i64 tr, .int .i64 x, .int .i64 y] 34 (0, 0)) := by rw [hwF]; exact set_block (set_block (set_block z5 _) _) _
  have v0 : wF.cell? ⟨w.heap.size, 0, none⟩ = some (.int .i64 tr) := by rw [cell_of_row _ _ 0 _ _ _ zF]; rfl
  have v1 : wF.cell? ⟨w.heap.size, 1, none⟩ = some (.int .i64 x) := by rw [cell_of_row _ _ 1 _ _ _ zF]; rfl
  have v2 : wF.cell? ⟨w.heap.size, 2, none⟩ = some (.int .i64 y) := by rw [cell_of_row _ _ 2 _ _ _ zF]; rfl
  have IF := Lib.hid ((I5.out.only (by rw [hwF]; exact (((Only.refl w.heap.size w5).set _).set _).set _ : Only w.heap.size w5 wF) (by omega)).lower (show w.heap.size ≤ w3.heap.size by omega))
  have BF : Below w.heap.size w wF := by
    rw [hwF]
    exact (((Only.below B3.out O5.out (by omega) (by omega)).setCell (Nat.le_refl _) _).setCell (Nat.le_refl _) _).setCell (Nat.le_refl _) _
  rw [← hwF]
  clear hwF r0 r1 r2 e0 e1 e2 c0 c1 c2 z0 z4 z5 y0 y4 y5
  go_wp2_with fail
  exact bodyPost_ret (v := .tuple #[.agg #[.int .i64 tr, .int .i64 x, .int .i64 y], .slice (some ⟨h5, 0, none⟩) l5.length c5]) (by simp [results, Tryd.results24, go_sem, v0, v1, v2]) rfl ⟨tr, x, y, h5, c5, l5, ⟨ho, hx, hy⟩, rfl, by omega, IF.out, BF⟩
set_option maxRecDepth 100000 in
set_option maxHeartbeats 4000000 in
theorem walkMoveRegions (a : Option Addr) (len cap : Nat) (w : World) (hlen : len ≤ maxLen) (hC : CodeIs w.heap.size w a len) (hD : EnvW w) (hM : Mats w) :
    Calls Tryd.prog 4 #[.slice a len cap] w fun e w' => e = .returned (.bool true) ∧ Below w.heap.size w w' := by
  by_cases hbig : 4096 < len
  · have hb : decide (4096 < len) = true := decide_eq_true hbig
    go_enter Tryd.func4, Tryd.ntmps4
    go_wp2_with fail
    refine (lawBigB_any _ _ _ _).mono ?_
    rintro e w1 ⟨rfl, rfl⟩
    rw [hb]
    go_wp2_with fail
    go_ret
    exact ⟨rfl, Below.refl _ _⟩
  have hb : decide (4096 < len) = false := decide_eq_false hbig
  have HC := Lib.hid hC
  have hmz := hM.size
  clear hC
  have HMM := Lib.hid hM
  clear hM
  go_enter Tryd.func4, Tryd.ntmps4
  go_wp2_with fail
  refine (lawBigB_any _ _ _ _).mono ?_
  rintro e w1 ⟨rfl, rfl⟩
  rw [hb]
  go_wp2_with fail
  refine (drawMoveRegion_any a len cap _ (by omega) HC.out).mono ?_
  rintro e w2 ⟨o, tx, ty, h1, c1, l1, ⟨ho, hx, hy⟩, rfl, n1, i1, Bc⟩
  have I1 := Lib.hid i1
  clear i1
  obtain ⟨wt, hwt⟩ : ∃ wt, wt = w2.alloc (.cells #[.int .i64 o, .int .i64 tx, .int .i64 ty] 34) := ⟨_, rfl⟩
  have bt : Below w2.heap.size w2 wt := by rw [hwt]; (repeat (first | (with_reducible exact Below.refl _ _) | (with_reducible refine Ext.drewN ?_ _) | (with_reducible refine Below.drew ?_) | (with_reducible refine Ext.alloc ?_ _) | (with_reducible refine Ext.setCell ?_ (by simp; try omega) _) | (with_reducible refine Ext.trans ?_ (by assumption)) | (with_reducible assumption) | exact Below.refl _ _))
  have st : wt.heap.size = w2.heap.size + 1 := by rw [hwt]; simp
  have yt : wt.heap[w2.heap.size]? = some (.cells #[.int .i64 o, .int .i64 tx, .int .i64 ty] 34 (0, 0)) := by rw [hwt]; exact heap_alloc_new _ _
  have hwB := Bc.size
  go_upto_region 4 with fail
  rw [← hwt]
  clear hwt
  have TB := Lib.hid (show BoxT' wt w2.heap.size o tx ty from yt)
  have I1 := Lib.hid (I1.out.ext bt)
  have HC2 := Lib.hid ((HC.out.below Bc).up Bc.size)
  have HC3 := Lib.hid ((HC2.out.below bt).up bt.size)
  have Bc := Ext.trans Bc bt
  clear bt yt HC HC2 hb
  go_wp2_with fail
  refine (other3_any a len cap _ (by omega) HC3.out).mono ?_
  rintro e wo ⟨⟨h9, c9, rfl, hcode⟩, bo⟩
  have HC4 := Lib.hid hcode
  have I1 := Lib.hid (I1.out.ext bo)
  have TB := Lib.hid (TB.out.ext bo)
  have Bc := Ext.trans Bc bo
  clear bo hcode HC3
  go_wp2_with fail
  refine (drawUnion_any _ (3 + len) c9 _ (by omega) HC4.out).mono ?_
  rintro e wi ⟨_, _, l2, l3, rfl, ⟨h2, c2, rfl, n2, i2⟩, ⟨h3, c3, rfl, n3, i3⟩, bi⟩
  have I2 := Lib.hid i2
  have I1 := Lib.hid (I1.out.ext bi)
  have TB := Lib.hid (TB.out.ext bi)
  have Bc := Ext.trans Bc bi
  clear i2 i3 HC4 hbig bi

  have tc0 := TB.out.cell0
  have tc1 := TB.out.cell1
  have tc2 := TB.out.cell2
  go_wp2_with fail
  refine (specMoveRegion_all o tx ty (some ⟨h1, 0, none⟩) l1.length c1 (pA l1) (pB l1) (pC l1) (pD l1) _ (by omega) I1.out.rects).mono ?_
  rintro e ws1 ⟨⟨aX, cX, rfl, rX⟩, bs1⟩
  clear tc0 tc1 tc2
  obtain ⟨lX, hlX⟩ : ∃ l, l = mgL o tx ty (pA l1) (pB l1) (pC l1) (pD l1) l1.length := ⟨_, rfl⟩
  rw [← hlX] at rX ⊢
  have RX := Lib.hid rX
  clear rX
  have TB := Lib.hid (TB.out.ext bs1)
  have I1 := Lib.hid (I1.out.ext bs1)
  have I2 := Lib.hid (I2.out.ext bs1)
  have Bc := Ext.trans Bc bs1
  clear bs1
  have tc0 := TB.out.cell0
  have tc1 := TB.out.cell1
  have tc2 := TB.out.cell2
  go_wp2_with fail
  refine (specMoveRegion_all o tx ty (some ⟨h2, 0, none⟩) l2.length c2 (pA l2) (pB l2) (pC l2) (pD l2) _ (by omega) I2.out.rects).mono ?_
  rintro e ws2 ⟨⟨aY, cY, rfl, rY⟩, bs2⟩
  clear tc0 tc1 tc2
  have RX := Lib.hid (RX.out.ext bs2)
  clear rY
  have TB := Lib.hid (TB.out.ext bs2)
  have I1 := Lib.hid (I1.out.ext bs2)
  have I2 := Lib.hid (I2.out.ext bs2)
  have Bc := Ext.trans Bc bs2
  clear bs2
  cases hv1 : mgB o tx ty (pA l1) (pB l1) (pC l1) (pD l1) l1.length with
  | false =>
    go_wp2_with fail
    go_ret
    exact ⟨rfl, Bc⟩
  | true =>
  cases hv2 : mgB o tx ty (pA l2) (pB l2) (pC l2) (pD l2) l2.length with
  | false =>
    go_wp2_with fail
    go_ret
    exact ⟨rfl, Bc⟩
  | true =>
  have M14 : MergeC 0 14 := fun m n cap P Q R S mm k kc a' n' c' P' Q' R' S' w h1 h2 h3 h4 h5 h6 => merge14_any m n cap P Q R S mm k kc a' n' c' P' Q' R' S' w h1 h2 h3 h4 h5 h6
  obtain ⟨f1, hc1⟩ : ∃ f, l1 = canonL f := ⟨_, canon_of (mgB_ok hv1)⟩
  obtain ⟨f2, hc2⟩ : ∃ f, l2 = canonL f := ⟨_, canon_of (mgB_ok hv2)⟩
  obtain ⟨lU, hlU⟩ : ∃ l, l = opL 14 (pA l1) (pB l1) (pC l1) (pD l1) l1.length (pA l2) (pB l2) (pC l2) (pD l2) l2.length := ⟨_, rfl⟩
  have hcU := hlU.trans (opL_eq 14 hc1 hc2)
  have hnU := canon_len hcU
  have hmu := mg_union hc1 hc2 hcU hv1 hv2
  obtain ⟨lV, hlV⟩ : ∃ l, l = mgL o tx ty (pA lU) (pB lU) (pC lU) (pD lU) lU.length := ⟨_, rfl⟩
  have hcV := hlV.trans hmu.2
  have hnV := canon_len hcV
  obtain ⟨lP, hlP⟩ : ∃ l, l = mgL o tx ty (pA l1) (pB l1) (pC l1) (pD l1) l1.length := ⟨_, rfl⟩
  have hcP := hlP.trans (mg_canon hv1)
  have hnP := canon_len hcP
  obtain ⟨lQ, hlQ⟩ : ∃ l, l = mgL o tx ty (pA l2) (pB l2) (pC l2) (pD l2) l2.length := ⟨_, rfl⟩
  have hcQ := hlQ.trans (mg_canon hv2)
  have hnQ := canon_len hcQ
  obtain ⟨lPQ, hlPQ⟩ : ∃ l, l = opL 14 (pA lP) (pB lP) (pC lP) (pD lP) lP.length (pA lQ) (pB lQ) (pC lQ) (pD lQ) lQ.length := ⟨_, rfl⟩
  have hcPQ := hlPQ.trans (opL_eq 14 hcP hcQ)
  have hnPQ := canon_len hcPQ
  have eVPQ : lV = lPQ := hcV.trans hcPQ.symm
  have har : areaL lP = areaL l1 := mg_area hc1 hv1 hlP
  have eX : lX = lP := hlX.trans hlP.symm
  subst eX
  have HLU := Lib.hid hlU
  have HLV := Lib.hid hlV
  have HLP := Lib.hid hlP
  have HLQ := Lib.hid hlQ
  have HLPQ := Lib.hid hlPQ
  have HVU := Lib.hid hmu.1
  have HV1 := Lib.hid hv1
  have HV2 := Lib.hid hv2
  have HEQ := Lib.hid eVPQ
  have HAR := Lib.hid har
  clear hlU hlV hlP hlQ hlPQ hmu hv1 hv2 eVPQ har hcU hcV hcP hcQ hcPQ hc1 hc2 hlX
  have hM := HMM.out
  have hmix : Tryd.prog.follows .mixedOrders = true := by kernel_rfl
  clear hmz

  go_upto_region 9 with fail
  have bd : Below ws2.heap.size ws2 ws2.drew := (Below.refl _ _).drew
  have TB := Lib.hid (TB.out.ext bd)
  have RX := Lib.hid (RX.out.ext bd)
  have I1 := Lib.hid (I1.out.ext bd)
  have I2 := Lib.hid (I2.out.ext bd)
  have Bc := Ext.trans Bc bd
  clear bd
  refine (wpIn_wide (n := 9)).1 ?_
  gi_wp2
  refine regionT (S := fun w' => BoxT' w' w2.heap.size o tx ty) (tl := fun _ => false) hmix ?_
  refine takeT (i := 0) (.agg #[.int .i64 o, .int .i64 tx, .int .i64 ty]) rfl (by kernel_rfl) (by kernel_rfl) (by kernel_rfl) (by kernel_rfl) (by kernel_rfl) (fun _ _ _ h => h) (by rfl) ?_ (fun _ => rfl) TB.out ?_
  · intro w' h9
    simp [go_sem, h9.cell0, h9.cell1, h9.cell2, Act.put]
  simp only [go_sem, Act.put, List.getElem_toArray, List.getElem_cons_succ, List.getElem_cons_zero, List.setIfInBounds_toArray, List.set_cons_succ, List.set_cons_zero]
  refine takeT (i := 1) (.slice (some ⟨h1, 0, none⟩) l1.length c1) rfl (by kernel_rfl) (by kernel_rfl) (by kernel_rfl) (by kernel_rfl) (by kernel_rfl) (fun _ _ _ h => h) (by rfl) ?_ (fun _ => rfl) TB.out ?_
  · intro w' h9
    simp [go_sem, h9.cell0, h9.cell1, h9.cell2, Act.put]
  simp only [go_sem, Act.put, List.getElem_toArray, List.getElem_cons_succ, List.getElem_cons_zero, List.setIfInBounds_toArray, List.set_cons_succ, List.set_cons_zero]
  refine takeT (i := 3) (.slice (some ⟨h2, 0, none⟩) l2.length c2) rfl (by kernel_rfl) (by kernel_rfl) (by kernel_rfl) (by kernel_rfl) (by kernel_rfl) (fun _ _ _ h => h) (by rfl) ?_ (fun _ => rfl) TB.out ?_
  · intro w' h9
    simp [go_sem, h9.cell0, h9.cell1, h9.cell2, Act.put]
  simp only [go_sem, Act.put, List.getElem_toArray, List.getElem_cons_succ, List.getElem_cons_zero, List.setIfInBounds_toArray, List.set_cons_succ, List.set_cons_zero]
  refine oneN (i := 2) (by kernel_rfl) (wpOpIn_step rfl fun K' hK' => ?_)
  rw [if_pos (by rfl)]
  refine ⟨fun _ _ => trivial, ?_⟩
  simp only [go_sem, Act.put]
  simp [go_sem, enters_of Tryd.func29 (by kernel_rfl) rfl]
  refine (callsIn_wide.2 (copyRects_any _ h1 c1 l1 _ (by omega) I1.out)).mono ?_
  rintro e w4 ⟨h4, c4, rfl, k4, i4, b4⟩
  have i4 := Lib.hid i4
  have TB := Lib.hid (TB.out.ext b4)
  have RX := Lib.hid (RX.out.ext b4)
  have I1 := Lib.hid (I1.out.ext b4)
  have I2 := Lib.hid (I2.out.ext b4)
  have Bc := Ext.trans Bc b4
  clear b4
  have I4 := i4
  clear i4
  dsimp only
  refine hK' _ _ ⟨TB.out, ?_⟩
  clear hK'
  refine oneN (i := 4) (by kernel_rfl) (wpOpIn_step rfl fun K' hK' => ?_)
  rw [if_pos (by rfl)]
  refine ⟨fun _ _ => trivial, ?_⟩
  simp only [go_sem, Act.put]
  simp [go_sem, enters_of Tryd.func29 (by kernel_rfl) rfl]
  refine (callsIn_wide.2 (copyRects_any _ h2 c2 l2 _ (by omega) I2.out)).mono ?_
  rintro e w5 ⟨h5, c5, rfl, k5, i5, b5⟩
  have i5 := Lib.hid i5
  have TB := Lib.hid (TB.out.ext b5)
  have RX := Lib.hid (RX.out.ext b5)
  have I1 := Lib.hid (I1.out.ext b5)
  have I2 := Lib.hid (I2.out.ext b5)
  have I4 := Lib.hid (I4.out.ext b5)
  have Bc := Ext.trans Bc b5
  clear b5
  have I5 := i5
  clear i5
  dsimp only
  refine hK' _ _ ⟨TB.out, ?_⟩
  clear hK'
  refine oneN (i := 5) (by kernel_rfl) (wpOpIn_step rfl fun K' hK' => ?_)
  rw [if_pos (by rfl)]
  refine ⟨fun _ _ => trivial, ?_⟩
  simp only [go_sem, Act.put]
  simp [go_sem, enters_of Tryd.func20 (by kernel_rfl) rfl]
  refine (callsIn_wide.2 (implUnionC_any M14 (some ⟨h4, 0, none⟩) l1.length c4 (pA l1) (pB l1) (pC l1) (pD l1) (some ⟨h5, 0, none⟩) l2.length c5 (pA l2) (pB l2) (pC l2) (pD l2) _ (by omega) k4 (by omega) k5 (hD.ext Bc) I4.out.rects I5.out.rects)).mono ?_
  rintro e wU ⟨⟨aU, cU, rfl, kU, oU⟩, bU⟩
  rw [← HLU.out] at kU oU ⊢
  have oU := Lib.hid oU
  clear I4
  clear I5
  have TB := Lib.hid (TB.out.ext bU)
  have RX := Lib.hid (RX.out.ext bU)
  have I1 := Lib.hid (I1.out.ext bU)
  have I2 := Lib.hid (I2.out.ext bU)
  have Bc := Ext.trans Bc bU
  clear bU
  have OU := oU
  clear oU
  dsimp only
  refine hK' _ _ ⟨TB.out, ?_⟩
  clear hK'
  refine oneN (i := 6) (by kernel_rfl) (wpOpIn_step rfl fun K' hK' => ?_)
  rw [if_pos (by rfl)]
  refine ⟨fun _ _ => trivial, ?_⟩
  simp only [go_sem, Act.put]
  simp [go_sem, enters_of Tryd.func28 (by kernel_rfl) rfl]
  refine (callsIn_wide.2 (moveRegionC_any o tx ty aU lU.length cU (pA lU) (pB lU) (pC lU) (pD lU) _ (by omega) kU (hD.ext Bc) (hM.below Bc hM.size) OU.out.rects)).mono ?_
  rintro e wV ⟨⟨aV, cV, rfl, kV, oV⟩, bV⟩
  rw [HVU.out, ← HLV.out]
  rw [← HLV.out] at kV oV
  have oV := Lib.hid oV
  clear OU
  have TB := Lib.hid (TB.out.ext bV)
  have RX := Lib.hid (RX.out.ext bV)
  have I1 := Lib.hid (I1.out.ext bV)
  have I2 := Lib.hid (I2.out.ext bV)
  have Bc := Ext.trans Bc bV
  clear bV
  have OV := oV
  clear oV
  dsimp only
  refine hK' _ _ ⟨TB.out, ?_⟩
  clear hK'
  refine takeT (i := 7) (.tuple #[.slice aV lV.length cV, .bool true]) rfl (by kernel_rfl) (by kernel_rfl) (by kernel_rfl) (by kernel_rfl) (by kernel_rfl) (fun _ _ _ h => h) (by rfl) ?_ (fun _ => rfl) TB.out ?_
  · intro w' h9
    simp [go_sem, h9.cell0, h9.cell1, h9.cell2, Act.put]
  simp only [go_sem, Act.put, List.getElem_toArray, List.getElem_cons_succ, List.getElem_cons_zero, List.setIfInBounds_toArray, List.set_cons_succ, List.set_cons_zero]
  refine takeT (i := 8) (.slice aV lV.length cV) rfl (by kernel_rfl) (by kernel_rfl) (by kernel_rfl) (by kernel_rfl) (by kernel_rfl) (fun _ _ _ h => h) (by rfl) ?_ (fun _ => rfl) TB.out ?_
  · intro w' h9
    simp [go_sem, h9.cell0, h9.cell1, h9.cell2, Act.put]
  simp only [go_sem, Act.put, List.getElem_toArray, List.getElem_cons_succ, List.getElem_cons_zero, List.setIfInBounds_toArray, List.set_cons_succ, List.set_cons_zero]
  refine takeT (i := 9) (.bool true) rfl (by kernel_rfl) (by kernel_rfl) (by kernel_rfl) (by kernel_rfl) (by kernel_rfl) (fun _ _ _ h => h) (by rfl) ?_ (fun _ => rfl) TB.out ?_
  · intro w' h9
    simp [go_sem, h9.cell0, h9.cell1, h9.cell2, Act.put]
  simp only [go_sem, Act.put, List.getElem_toArray, List.getElem_cons_succ, List.getElem_cons_zero, List.setIfInBounds_toArray, List.set_cons_succ, List.set_cons_zero]
  refine takeT (i := 10) (.slice aV lV.length cV) rfl (by kernel_rfl) (by kernel_rfl) (by kernel_rfl) (by kernel_rfl) (by kernel_rfl) (fun _ _ _ h => h) (by rfl) ?_ (fun _ => rfl) TB.out ?_
  · intro w' h9
    simp [go_sem, h9.cell0, h9.cell1, h9.cell2, Act.put]
  simp only [go_sem, Act.put, List.getElem_toArray, List.getElem_cons_succ, List.getElem_cons_zero, List.setIfInBounds_toArray, List.set_cons_succ, List.set_cons_zero]
  refine takeT (i := 11) (.bool true) rfl (by kernel_rfl) (by kernel_rfl) (by kernel_rfl) (by kernel_rfl) (by kernel_rfl) (fun _ _ _ h => h) (by rfl) ?_ (fun _ => rfl) TB.out ?_
  · intro w' h9
    simp [go_sem, h9.cell0, h9.cell1, h9.cell2, Act.put]
  simp only [go_sem, Act.put, List.getElem_toArray, List.getElem_cons_succ, List.getElem_cons_zero, List.setIfInBounds_toArray, List.set_cons_succ, List.set_cons_zero]
  refine doneT (by kernel_rfl) ?_ _
  gi_wp2
  have HEQ' := HEQ
  go_upto_region 10 with fail
  have bd : Below wV.heap.size wV wV.drew := (Below.refl _ _).drew
  have TB := Lib.hid (TB.out.ext bd)
  have RX := Lib.hid (RX.out.ext bd)
  have I1 := Lib.hid (I1.out.ext bd)
  have I2 := Lib.hid (I2.out.ext bd)
  have OV := Lib.hid (OV.out.below bd)
  have Bc := Ext.trans Bc bd
  clear bd
  refine (wpIn_wide (n := 9)).1 ?_
  gi_wp2
  refine regionT (S := fun w' => BoxT' w' w2.heap.size o tx ty) (tl := fun _ => false) hmix ?_
  refine takeT (i := 0) (.agg #[.int .i64 o, .int .i64 tx, .int .i64 ty]) rfl (by kernel_rfl) (by kernel_rfl) (by kernel_rfl) (by kernel_rfl) (by kernel_rfl) (fun _ _ _ h => h) (by rfl) ?_ (fun _ => rfl) TB.out ?_
  · intro w' h9
    simp [go_sem, h9.cell0, h9.cell1, h9.cell2, Act.put]
  simp only [go_sem, Act.put, List.getElem_toArray, List.getElem_cons_succ, List.getElem_cons_zero, List.setIfInBounds_toArray, List.set_cons_succ, List.set_cons_zero]
  refine takeT (i := 1) (.slice (some ⟨h1, 0, none⟩) l1.length c1) rfl (by kernel_rfl) (by kernel_rfl) (by kernel_rfl) (by kernel_rfl) (by kernel_rfl) (fun _ _ _ h => h) (by rfl) ?_ (fun _ => rfl) TB.out ?_
  · intro w' h9
    simp [go_sem, h9.cell0, h9.cell1, h9.cell2, Act.put]
  simp only [go_sem, Act.put, List.getElem_toArray, List.getElem_cons_succ, List.getElem_cons_zero, List.setIfInBounds_toArray, List.set_cons_succ, List.set_cons_zero]
  refine oneN (i := 2) (by kernel_rfl) (wpOpIn_step rfl fun K' hK' => ?_)
  rw [if_pos (by rfl)]
  refine ⟨fun _ _ => trivial, ?_⟩
  simp only [go_sem, Act.put]
  simp [go_sem, enters_of Tryd.func29 (by kernel_rfl) rfl]
  refine (callsIn_wide.2 (copyRects_any _ h1 c1 l1 _ (by omega) I1.out)).mono ?_
  rintro e w6 ⟨h6, c6, rfl, k6, i6, b6⟩
  have i6 := Lib.hid i6
  have TB := Lib.hid (TB.out.ext b6)
  have RX := Lib.hid (RX.out.ext b6)
  have I1 := Lib.hid (I1.out.ext b6)
  have I2 := Lib.hid (I2.out.ext b6)
  have OV := Lib.hid (OV.out.below b6)
  have Bc := Ext.trans Bc b6
  clear b6
  have I6 := i6
  clear i6
  dsimp only
  refine hK' _ _ ⟨TB.out, ?_⟩
  clear hK'
  have HLX := HLP
  refine oneN (i := 3) (by kernel_rfl) (wpOpIn_step rfl fun K' hK' => ?_)
  rw [if_pos (by rfl)]
  refine ⟨fun _ _ => trivial, ?_⟩
  simp only [go_sem, Act.put]
  simp [go_sem, enters_of Tryd.func28 (by kernel_rfl) rfl]
  refine (callsIn_wide.2 (moveRegionC_any o tx ty (some ⟨h6, 0, none⟩) l1.length c6 (pA l1) (pB l1) (pC l1) (pD l1) _ (by omega) k6 (hD.ext Bc) (hM.below Bc hM.size) I6.out.rects)).mono ?_
  rintro e wP ⟨⟨aP, cP, rfl, kP, oP⟩, bP⟩
  rw [HV1.out, ← HLP.out]
  rw [← HLP.out] at kP oP
  have oP := Lib.hid oP
  clear I6
  have TB := Lib.hid (TB.out.ext bP)
  have RX := Lib.hid (RX.out.ext bP)
  have I1 := Lib.hid (I1.out.ext bP)
  have I2 := Lib.hid (I2.out.ext bP)
  have OV := Lib.hid (OV.out.below bP)
  have Bc := Ext.trans Bc bP
  clear bP
  have OP := oP
  clear oP
  dsimp only
  refine hK' _ _ ⟨TB.out, ?_⟩
  clear hK'
  refine takeT (i := 4) (.tuple #[.slice aP lX.length cP, .bool true]) rfl (by kernel_rfl) (by kernel_rfl) (by kernel_rfl) (by kernel_rfl) (by kernel_rfl) (fun _ _ _ h => h) (by rfl) ?_ (fun _ => rfl) TB.out ?_
  · intro w' h9
    simp [go_sem, h9.cell0, h9.cell1, h9.cell2, Act.put]
  simp only [go_sem, Act.put, List.getElem_toArray, List.getElem_cons_succ, List.getElem_cons_zero, List.setIfInBounds_toArray, List.set_cons_succ, List.set_cons_zero]
  refine takeT (i := 5) (.slice aP lX.length cP) rfl (by kernel_rfl) (by kernel_rfl) (by kernel_rfl) (by kernel_rfl) (by kernel_rfl) (fun _ _ _ h => h) (by rfl) ?_ (fun _ => rfl) TB.out ?_
  · intro w' h9
    simp [go_sem, h9.cell0, h9.cell1, h9.cell2, Act.put]
  simp only [go_sem, Act.put, List.getElem_toArray, List.getElem_cons_succ, List.getElem_cons_zero, List.setIfInBounds_toArray, List.set_cons_succ, List.set_cons_zero]
  refine takeT (i := 6) (.bool true) rfl (by kernel_rfl) (by kernel_rfl) (by kernel_rfl) (by kernel_rfl) (by kernel_rfl) (fun _ _ _ h => h) (by rfl) ?_ (fun _ => rfl) TB.out ?_
  · intro w' h9
    simp [go_sem, h9.cell0, h9.cell1, h9.cell2, Act.put]
  simp only [go_sem, Act.put, List.getElem_toArray, List.getElem_cons_succ, List.getElem_cons_zero, List.setIfInBounds_toArray, List.set_cons_succ, List.set_cons_zero]
  refine takeT (i := 7) (.slice aP lX.length cP) rfl (by kernel_rfl) (by kernel_rfl) (by kernel_rfl) (by kernel_rfl) (by kernel_rfl) (fun _ _ _ h => h) (by rfl) ?_ (fun _ => rfl) TB.out ?_
  · intro w' h9
    simp [go_sem, h9.cell0, h9.cell1, h9.cell2, Act.put]
  simp only [go_sem, Act.put, List.getElem_toArray, List.getElem_cons_succ, List.getElem_cons_zero, List.setIfInBounds_toArray, List.set_cons_succ, List.set_cons_zero]
  refine takeT (i := 8) (.bool true) rfl (by kernel_rfl) (by kernel_rfl) (by kernel_rfl) (by kernel_rfl) (by kernel_rfl) (fun _ _ _ h => h) (by rfl) ?_ (fun _ => rfl) TB.out ?_
  · intro w' h9
    simp [go_sem, h9.cell0, h9.cell1, h9.cell2, Act.put]
  simp only [go_sem, Act.put, List.getElem_toArray, List.getElem_cons_succ, List.getElem_cons_zero, List.setIfInBounds_toArray, List.set_cons_succ, List.set_cons_zero]
  refine doneT (by kernel_rfl) ?_ _
  gi_wp2
  go_upto_region 11 with fail
  have bd : Below wP.heap.size wP wP.drew := (Below.refl _ _).drew
  have TB := Lib.hid (TB.out.ext bd)
  have RX := Lib.hid (RX.out.ext bd)
  have I1 := Lib.hid (I1.out.ext bd)
  have I2 := Lib.hid (I2.out.ext bd)
  have OV := Lib.hid (OV.out.below bd)
  have OP := Lib.hid (OP.out.below bd)
  have Bc := Ext.trans Bc bd
  clear bd
  refine (wpIn_wide (n := 9)).1 ?_
  gi_wp2
  refine regionT (S := fun w' => BoxT' w' w2.heap.size o tx ty) (tl := fun _ => false) hmix ?_
  refine takeT (i := 0) (.agg #[.int .i64 o, .int .i64 tx, .int .i64 ty]) rfl (by kernel_rfl) (by kernel_rfl) (by kernel_rfl) (by kernel_rfl) (by kernel_rfl) (fun _ _ _ h => h) (by rfl) ?_ (fun _ => rfl) TB.out ?_
  · intro w' h9
    simp [go_sem, h9.cell0, h9.cell1, h9.cell2, Act.put]
  simp only [go_sem, Act.put, List.getElem_toArray, List.getElem_cons_succ, List.getElem_cons_zero, List.setIfInBounds_toArray, List.set_cons_succ, List.set_cons_zero]
  refine takeT (i := 1) (.slice (some ⟨h2, 0, none⟩) l2.length c2) rfl (by kernel_rfl) (by kernel_rfl) (by kernel_rfl) (by kernel_rfl) (by kernel_rfl) (fun _ _ _ h => h) (by rfl) ?_ (fun _ => rfl) TB.out ?_
  · intro w' h9
    simp [go_sem, h9.cell0, h9.cell1, h9.cell2, Act.put]
  simp only [go_sem, Act.put, List.getElem_toArray, List.getElem_cons_succ, List.getElem_cons_zero, List.setIfInBounds_toArray, List.set_cons_succ, List.set_cons_zero]
  refine oneN (i := 2) (by kernel_rfl) (wpOpIn_step rfl fun K' hK' => ?_)
  rw [if_pos (by rfl)]
  refine ⟨fun _ _ => trivial, ?_⟩
  simp only [go_sem, Act.put]
  simp [go_sem, enters_of Tryd.func29 (by kernel_rfl) rfl]
  refine (callsIn_wide.2 (copyRects_any _ h2 c2 l2 _ (by omega) I2.out)).mono ?_
  rintro e w7 ⟨h7, c7, rfl, k7, i7, b7⟩
  have i7 := Lib.hid i7
  have TB := Lib.hid (TB.out.ext b7)
  have RX := Lib.hid (RX.out.ext b7)
  have I1 := Lib.hid (I1.out.ext b7)
  have I2 := Lib.hid (I2.out.ext b7)
  have OV := Lib.hid (OV.out.below b7)
  have OP := Lib.hid (OP.out.below b7)
  have Bc := Ext.trans Bc b7
  clear b7
  have I7 := i7
  clear i7
  dsimp only
  refine hK' _ _ ⟨TB.out, ?_⟩
  clear hK'
  refine oneN (i := 3) (by kernel_rfl) (wpOpIn_step rfl fun K' hK' => ?_)
  rw [if_pos (by rfl)]
  refine ⟨fun _ _ => trivial, ?_⟩
  simp only [go_sem, Act.put]
  simp [go_sem, enters_of Tryd.func28 (by kernel_rfl) rfl]
  refine (callsIn_wide.2 (moveRegionC_any o tx ty (some ⟨h7, 0, none⟩) l2.length c7 (pA l2) (pB l2) (pC l2) (pD l2) _ (by omega) k7 (hD.ext Bc) (hM.below Bc hM.size) I7.out.rects)).mono ?_
  rintro e wQ ⟨⟨aQ, cQ, rfl, kQ, oQ⟩, bQ⟩
  rw [HV2.out, ← HLQ.out]
  rw [← HLQ.out] at kQ oQ
  have oQ := Lib.hid oQ
  clear I7
  have TB := Lib.hid (TB.out.ext bQ)
  have RX := Lib.hid (RX.out.ext bQ)
  have I1 := Lib.hid (I1.out.ext bQ)
  have I2 := Lib.hid (I2.out.ext bQ)
  have OV := Lib.hid (OV.out.below bQ)
  have OP := Lib.hid (OP.out.below bQ)
  have Bc := Ext.trans Bc bQ
  clear bQ
  have OQ := oQ
  clear oQ
  dsimp only
  refine hK' _ _ ⟨TB.out, ?_⟩
  clear hK'
  refine takeT (i := 4) (.tuple #[.slice aQ lQ.length cQ, .bool true]) rfl (by kernel_rfl) (by kernel_rfl) (by kernel_rfl) (by kernel_rfl) (by kernel_rfl) (fun _ _ _ h => h) (by rfl) ?_ (fun _ => rfl) TB.out ?_
  · intro w' h9
    simp [go_sem, h9.cell0, h9.cell1, h9.cell2, Act.put]
  simp only [go_sem, Act.put, List.getElem_toArray, List.getElem_cons_succ, List.getElem_cons_zero, List.setIfInBounds_toArray, List.set_cons_succ, List.set_cons_zero]
  refine takeT (i := 5) (.slice aQ lQ.length cQ) rfl (by kernel_rfl) (by kernel_rfl) (by kernel_rfl) (by kernel_rfl) (by kernel_rfl) (fun _ _ _ h => h) (by rfl) ?_ (fun _ => rfl) TB.out ?_
  · intro w' h9
    simp [go_sem, h9.cell0, h9.cell1, h9.cell2, Act.put]
  simp only [go_sem, Act.put, List.getElem_toArray, List.getElem_cons_succ, List.getElem_cons_zero, List.setIfInBounds_toArray, List.set_cons_succ, List.set_cons_zero]
  refine takeT (i := 6) (.bool true) rfl (by kernel_rfl) (by kernel_rfl) (by kernel_rfl) (by kernel_rfl) (by kernel_rfl) (fun _ _ _ h => h) (by rfl) ?_ (fun _ => rfl) TB.out ?_
  · intro w' h9
    simp [go_sem, h9.cell0, h9.cell1, h9.cell2, Act.put]
  simp only [go_sem, Act.put, List.getElem_toArray, List.getElem_cons_succ, List.getElem_cons_zero, List.setIfInBounds_toArray, List.set_cons_succ, List.set_cons_zero]
  refine takeT (i := 7) (.slice aQ lQ.length cQ) rfl (by kernel_rfl) (by kernel_rfl) (by kernel_rfl) (by kernel_rfl) (by kernel_rfl) (fun _ _ _ h => h) (by rfl) ?_ (fun _ => rfl) TB.out ?_
  · intro w' h9
    simp [go_sem, h9.cell0, h9.cell1, h9.cell2, Act.put]
  simp only [go_sem, Act.put, List.getElem_toArray, List.getElem_cons_succ, List.getElem_cons_zero, List.setIfInBounds_toArray, List.set_cons_succ, List.set_cons_zero]
  refine takeT (i := 8) (.bool true) rfl (by kernel_rfl) (by kernel_rfl) (by kernel_rfl) (by kernel_rfl) (by kernel_rfl) (fun _ _ _ h => h) (by rfl) ?_ (fun _ => rfl) TB.out ?_
  · intro w' h9
    simp [go_sem, h9.cell0, h9.cell1, h9.cell2, Act.put]
  simp only [go_sem, Act.put, List.getElem_toArray, List.getElem_cons_succ, List.getElem_cons_zero, List.setIfInBounds_toArray, List.set_cons_succ, List.set_cons_zero]
  refine doneT (by kernel_rfl) ?_ _
  gi_wp2
  clear TB
  go_wp2_with fail
  refine (implUnionC_any M14 aP lX.length cP (pA lX) (pB lX) (pC lX) (pD lX) aQ lQ.length cQ (pA lQ) (pB lQ) (pC lQ) (pD lQ) _ (by omega) kP (by omega) kQ (hD.ext Bc) OP.out.rects OQ.out.rects).mono ?_
  rintro e wPQ ⟨⟨aPQ, cPQ, rfl, kPQ, oPQ⟩, bPQ⟩
  rw [← HLPQ.out] at kPQ oPQ ⊢
  have oPQ := Lib.hid oPQ
  clear OQ
  have RX := Lib.hid (RX.out.ext bPQ)
  have I1 := Lib.hid (I1.out.ext bPQ)
  have I2 := Lib.hid (I2.out.ext bPQ)
  have OV := Lib.hid (OV.out.below bPQ)
  have OP := Lib.hid (OP.out.below bPQ)
  have Bc := Ext.trans Bc bPQ
  clear bPQ
  have OPQ := oPQ
  clear oPQ
  go_wp2_with fail
  refine (sameRects_any aV lV.length cV (pA lV) (pB lV) (pC lV) (pD lV) aPQ lPQ.length cPQ (pA lPQ) (pB lPQ) (pC lPQ) (pD lPQ) _ (by omega) (by omega) OV.out.rects OPQ.out.rects).mono ?_
  rintro e vs ⟨rfl, bs9⟩
  rw [show decide (listR (pA lV) (pB lV) (pC lV) (pD lV) lV.length = listR (pA lPQ) (pB lPQ) (pC lPQ) (pD lPQ) lPQ.length) = true from decide_eq_true (by rw [HEQ.out])]
  clear OV
  clear OPQ
  have RX := Lib.hid (RX.out.ext bs9)
  have I1 := Lib.hid (I1.out.ext bs9)
  have I2 := Lib.hid (I2.out.ext bs9)
  have OP := Lib.hid (OP.out.below bs9)
  have Bc := Ext.trans Bc bs9
  clear bs9
  go_wp2_with fail
  refine (implRegionArea aP lX.length cP (pA lX) (pB lX) (pC lX) (pD lX) _ (by omega) kP (hD.ext Bc) OP.out.rects).mono ?_
  rintro e va ⟨rfl, ba9⟩
  rw [show areaR (pA lX) (pB lX) (pC lX) (pD lX) lX.length = areaR (pA l1) (pB l1) (pC l1) (pD l1) l1.length from HAR.out]
  obtain ⟨A9, hA9⟩ : ∃ A9, A9 = areaR (pA l1) (pB l1) (pC l1) (pD l1) l1.length := ⟨_, rfl⟩
  rw [← hA9]
  have HA9 := Lib.hid hA9
  clear hA9
  have RX := Lib.hid (RX.out.ext ba9)
  have I1 := Lib.hid (I1.out.ext ba9)
  have I2 := Lib.hid (I2.out.ext ba9)
  have OP := Lib.hid (OP.out.below ba9)
  have Bc := Ext.trans Bc ba9
  clear ba9
  go_wp2_with fail
  refine (copyRects_any _ h1 c1 l1 _ (by omega) I1.out).mono ?_
  rintro e w8 ⟨h8, c8, rfl, k8, i8, b8⟩
  have i8 := Lib.hid i8
  have RX := Lib.hid (RX.out.ext b8)
  have I1 := Lib.hid (I1.out.ext b8)
  have I2 := Lib.hid (I2.out.ext b8)
  have OP := Lib.hid (OP.out.below b8)
  have Bc := Ext.trans Bc b8
  clear b8
  have I8 := i8
  clear i8
  go_wp2_with fail
  refine (implRegionArea (some ⟨h8, 0, none⟩) l1.length c8 (pA l1) (pB l1) (pC l1) (pD l1) _ (by omega) k8 (hD.ext Bc) I8.out.rects).mono ?_
  rintro e vb ⟨rfl, bb9⟩
  rw [← HA9.out]
  have RX := Lib.hid (RX.out.ext bb9)
  have I1 := Lib.hid (I1.out.ext bb9)
  have I2 := Lib.hid (I2.out.ext bb9)
  have I8 := Lib.hid (I8.out.ext bb9)
  have OP := Lib.hid (OP.out.below bb9)
  have Bc := Ext.trans Bc bb9
  clear bb9
  go_wp2_with fail
  refine (sameRects_any aP lX.length cP (pA lX) (pB lX) (pC lX) (pD lX) aX lX.length cX (pA lX) (pB lX) (pC lX) (pD lX) _ (by omega) (by omega) OP.out.rects RX.out).mono ?_
  rintro e vf ⟨rfl, bf⟩
  rw [decide_eq_true (Eq.refl (listR (pA lX) (pB lX) (pC lX) (pD lX) lX.length))]
  have Bc := Ext.trans Bc bf
  go_wp2_with fail
  go_ret
  exact ⟨rfl, Bc⟩
end Go.Proofs.YtgccnongfdbalaaDoor

namespace Go.Proofs.YtgccnongfdbalaaDoor.fnMoveRegions
open Go.Proofs.YtgccnongfdbalaaDoor
open Go.ChangeShapes Go.WideShapes Go.ChangeAt Go.RowKit Go.Joins
open Go.ChangeMaps (open_string shut_string)
set_option linter.unusedVariables false

theorem addN0 (x : Addr) : x.add 0 = x := by simp [Addr.add]
theorem addNk (b o k : Nat) : (⟨b, o, none⟩ : Addr).add k = ⟨b, o + k, none⟩ := by
  unfold Addr.add
  split
  · rename_i h; subst h; rfl
  · rfl
theorem own : ownKnob Tryd.prog.godebug = none := by kernel_rfl
theorem laidOut : laidOutB Tryd.prog = true := by kernel_rfl

abbrev laid := Rows.fnMoveRegionsRow.laid
set_option maxRecDepth 100000 in
theorem lifted (os : Os) (started : os.Started) (H : Type) (enc : TypeId × Value → H) :
    ReturnsInHanded {} Tryd.checked os 4 .any (fun w args => (Rows.fnMoveRegionsSpec.pre enc Tryd.prog Tryd.f4 Rows.fnMoveRegionsRow.domain false w args ∧ laidMetH Tryd.prog Rows.fnMoveRegionsRow.laid w) ∧ sizedMet enc Tryd.prog Tryd.f4 (OpenSpec.ofChange Rows.fnMoveRegionsSpec) false w args)
      (Rows.fnMoveRegionsSpec.post enc Tryd.prog Tryd.f4 false true false false) := by
  refine returnsInHanded_of_change_and (C := Tryd.checked) (X := fun w _ => laidMetH Tryd.prog Rows.fnMoveRegionsRow.laid w) (fun _ _ _ hh h => h.of_heap hh) own started (by kernel_rfl) Tryd.func4
    (ChangeSpec.witness_shaped (enc := enc) (C := Tryd.checked) (os := os) (X := fun w _ => laidMetH Tryd.prog Rows.fnMoveRegionsRow.laid w) false (World.laidAll Tryd.prog os Rows.fnMoveRegionsRow.laid) #[.slice none 0 0] 8 (World.laidAll_os _ _ _)
      (World.shaped_of_ZipB (by kernel_rfl) (by kernel_rfl)) (by kernel_rfl) (by kernel_rfl) (by kernel_rfl)
      (by rw [MakeChecks.laidMetH_plain _ _ _ (by kernel_rfl)]; exact laidMet_laidAll _ (by kernel_rfl) (by kernel_rfl))) ?_
  intro W base args ds gs before hval0 hW hcnd _ hL _
  have hval : ∀ (j : Nat) t v, Tryd.f4.params[j]? = some t → args[j]? = some v → Value.okWide Tryd.prog W .any base t v := hval0
  have hW' := hW
  obtain ⟨p, q, hA0, hV, rfl, hfz, hnd⟩ := hW
  have hA : DataW.TrodAll enc Tryd.prog W 0 (fun _ => true) true Tryd.f4.params.toList args.toList ds p := hA0
  rw [Tryd.params4] at hA hval
  obtain ⟨v0, vs0, d0, ds0, p0, q0, hargs, rfl, rfl, h0, r0⟩ := trodAll_cons hA
  obtain ⟨rfl, rfl, rfl⟩ := trodAll_nil r0
  obtain rfl : args = #[v0] := by cases args; simp_all
  obtain ⟨g0, gt0, gcs0, gf0, gd0, gp0, g1, gt1, gcs1, gf1, gd1, gp1, rfl, hg1, hg2, hg3, hg4, hg5, hg6, hg7, hg8, hg9⟩ := trodVars_two hV
  have k0 := h0
  have lt0 : ∀ x ∈ p0, x.block < W.heap.size := by obtain ⟨m, hm⟩ := k0; exact DataW.trod_lt m _ _ _ hm
  obtain ⟨a0, len0, cap0, rfl⟩ := okWide_slice Tryd.underlying22 (hval 0 22 v0 rfl rfl)
  have code0 : len0 ≤ maxLen ∧ CodeIs W.heap.size W a0 len0 := by
    obtain ⟨fuel, hf⟩ := h0
    rcases open_ints Tryd.underlying22 Tryd.underlying5 (by kernel_rfl) hf with ⟨hcs, _⟩ | ⟨x, l, c, zs, hcs, _, hl, hm, hz, _, hcell, hwz⟩
    · simp [Value.cells] at hcs
      obtain ⟨rfl, rfl, rfl⟩ := hcs
      exact ⟨Nat.zero_le _, fun k hk => absurd hk (by omega)⟩
    · simp [Value.cells] at hcs
      obtain ⟨rfl, rfl, rfl⟩ := hcs
      have hz' := hz
      simp at hz'
      refine ⟨by omega, fun k hk => ?_⟩
      have hk' : k < zs.length := by omega
      have hc0 := hcell 0 (by omega)
      have hc := hcell k hk'
      rw [addN0] at hc0
      have hsp : x.spot = none := Go.Proofs.cell_spot hc0
      have hw := hwz (zs.getD k 0) (by rw [List.getD, List.getElem?_eq_getElem hk']; exact List.getElem_mem hk')
      have hb := bounds_u8 hw
      obtain ⟨xb, xo, xs⟩ := x
      obtain rfl : xs = none := hsp
      rw [addNk] at hc
      exact ⟨xb, xo, zs.getD k 0, rfl, World.block_lt_of_cell? W ⟨xb, xo + k, none⟩ hc, hc, hb.1, hb.2⟩
  have hMats : Mats W := mats_of_laid hL (by kernel_rfl) (by simp [Rows.fnMoveRegionsRow])
  have hEnv : EnvW W := ⟨deb_of_laid hL (by kernel_rfl) (by simp [Rows.fnMoveRegionsRow]), chip_of_laid hL (by kernel_rfl) (by simp [Rows.fnMoveRegionsRow])⟩
  clear hA0 hval0
  refine (walkMoveRegions a0 len0 cap0 W code0.1 code0.2 hEnv hMats).mono fun e W' ⟨he, bel⟩ => ?_
  subst he
  exact ⟨_, rfl, _, _, _, [], _, _, hW', trodAll_mk1 (shut_bool Tryd.underlying4 _), (trodAll_cons_mk (Below.trod laidOut (by kernel_rfl) (of_decide_eq_true (by kernel_rfl)) k0 bel lt0) trodAll_mk0), (Below.trodVars laidOut bel (by kernel_rfl) hV), bel.frame _, fun h => by cases h⟩

end Go.Proofs.YtgccnongfdbalaaDoor.fnMoveRegions
