/- The program's totals over a library. Conditions: the cells' parts are in memory; the library is valid. -/
import Derived.Test.YtciodcknobccdaaDoorLcB
import Derived.Test.YtciodcknobccdaaDoorLbC
import Derived.Deep.RegionWith
namespace Go.Proofs.YtciodcknobccdaaDoor
open Go.RowKit
set_option linter.unusedVariables false
set_option linter.unusedSimpArgs false
attribute [local go_sem ↓] Go.wp_at_zero Go.wp_at_succ

/-- Eight numbers in a block that may be written. -/
def NumAt (w : World) (g : Nat) (V : Nat → Int) : Prop := g < w.heap.size ∧ ∀ j, j < 8 → w.cell? ⟨g, j, none⟩ = some (.int .i64 (V j)) ∧ w.frozen? ⟨g, j, none⟩ = false
theorem NumAt.below {w w' : World} {g B : Nat} {V : Nat → Int} (h : NumAt w g V) (hb : Below B w w') (hB : w.heap.size ≤ B) : NumAt w' g V :=
  ⟨Nat.lt_of_lt_of_le h.1 hb.size, fun j hj => ⟨(hb.cell (p := ⟨g, j, none⟩) (by have := h.1; simp; omega)).trans (h.2 j hj).1, (hb.frozen (p := ⟨g, j, none⟩) (by have := h.1; simp; omega)).trans (h.2 j hj).2⟩⟩
def updV (V : Nat → Int) (i : Nat) (v : Int) : Nat → Int := fun j => if j = i then v else V j
theorem NumAt.set {w : World} {g : Nat} {V : Nat → Int} (h : NumAt w g V) {i : Nat} (hi : i < 8) (v : Int) : NumAt (w.setCell ⟨g, i, none⟩ (.int .i64 v)) g (updV V i v) := by
  refine ⟨by simpa using h.1, fun j hj => ⟨?_, by simpa using (h.2 j hj).2⟩⟩
  unfold updV
  by_cases e : j = i
  · subst e; rw [if_pos rfl]; exact World.cell?_setCell_same _ _ _ (h.2 j hj).1
  · rw [if_neg e]; exact other_cellL (by simp; try exact e) (h.2 j hj).1
theorem NumAt.other {w : World} {g : Nat} {V : Nat → Int} (h : NumAt w g V) {p : Addr} (hp : p.block ≠ g) (v : Value) : NumAt (w.setCell p v) g V :=
  ⟨by simpa using h.1, fun j hj => ⟨other_cellL (fun e => hp (by rw [← e])) (h.2 j hj).1, by simpa using (h.2 j hj).2⟩⟩
theorem NumAt.congr {w : World} {g : Nat} {V U : Nat → Int} (h : NumAt w g V) (e : V = U) : NumAt w g U := by rw [← e]; exact h
theorem updV_twice (V : Nat → Int) (i : Nat) (u v : Int) : updV (updV V i u) i v = updV V i v := by
  funext j
  unfold updV
  by_cases e : j = i
  · rw [if_pos e, if_pos e]
  · rw [if_neg e, if_neg e, if_neg e]
theorem updV_same (V : Nat → Int) (i : Nat) (v : Int) : updV V i v i = v := by unfold updV; rw [if_pos rfl]
theorem updV_other (V : Nat → Int) {i j : Nat} (v : Int) (h : j ≠ i) : updV V i v j = V j := by unfold updV; rw [if_neg h]
theorem tot_step (add : Int → Ins → Int → Int) (first : Int) (L : List Cel) {i : Nat} {c : Cel} (h : L[i]? = some c) : updV (totV add first L i) i (accF add (totV add first L i) c.d first c.d.length) = totV add first L (i + 1) := by
  funext j
  unfold updV
  simp only [totV, h]
/-- The function that takes in an instance does so at every step. -/
def AddOK (F : Fn) (add : Int → Ins → Int → Int) (first : Int) (L : List Cel) : Prop :=
  ∀ (f : FuncId), F = .func f → ∀ (i : Nat) (c : Cel) (k : Nat) (s : Ins), L[i]? = some c → c.d[k]? = some s → ∀ w : World, Calls Tryd.prog f #[.int .i64 (accF add (totV add first L i) c.d first k), .agg #[.int .i64 s.c, .int .i64 s.o, .int .i64 s.x, .int .i64 s.y, .int .i64 s.m, .int .i64 s.n, .int .i64 s.p, .int .i64 s.q], .int .i64 (totV add first L i s.c.toNat)] w fun e w' => e = .returned (.int .i64 (accF add (totV add first L i) c.d first (k + 1))) ∧ Below w.heap.size w w'
set_option maxRecDepth 100000 in
set_option maxHeartbeats 8000000 in
theorem total_dp (a : Option Addr) (L : List Cel) (cap : Nat) (k : Int) (w : World) (hp : libB L = true) (hk : 0 ≤ k ∧ k < L.length) (hs : szCs L ≤ 1048576) (hL : CelsAt w.heap.size w a L) (hF : AddOK (.func 46) dpAdd 0 L) :
    Calls Tryd.prog 45 #[.agg #[.slice a L.length cap], .int .i64 k, .int .i64 0, .func (.func 46) #[] #[]] w fun e w' => e = .returned (.int .i64 (totV dpAdd 0 L L.length k.toNat)) ∧ Below w.heap.size w w' := by
  have HL := Lib.hid hL
  have hlen := lib_len hp
  have HP := Lib.hid hp
  have HF := Lib.hid (hF _ rfl)
  clear hL hF hp
  obtain ⟨hl1, hl2⟩ := hlen
  obtain ⟨hk0, hk1⟩ := hk
  go_enter Tryd.func45, Tryd.ntmps45
  go_wp2_with fail
  go_loopw [17] (fun s4 wr => ∃ i : Nat, i ≤ L.length ∧ s4 = .int .i64 (i : Nat) ∧ Below w.heap.size w wr ∧ w.heap.size < w.heap.size + 1 ∧ Hid (NumAt wr (w.heap.size + 1) (totV dpAdd 0 L i))) (fun s4 _ => L.length - (intOf s4).toNat)
  case atStart => exact ⟨0, by omega, rfl, by (repeat (first | (with_reducible exact Below.refl _ _) | (with_reducible refine Ext.drewN ?_ _) | (with_reducible refine Below.drew ?_) | (with_reducible refine Ext.alloc ?_ _) | (with_reducible refine Ext.setCell ?_ (by simp; try omega) _) | (with_reducible refine Ext.trans ?_ (by assumption)) | (with_reducible assumption) | exact Below.refl _ _)), by omega, Lib.hid ⟨by simp, fun j hj => by
      rcases (show j = 0 ∨ j = 1 ∨ j = 2 ∨ j = 3 ∨ j = 4 ∨ j = 5 ∨ j = 6 ∨ j = 7 by omega) with rfl | rfl | rfl | rfl | rfl | rfl | rfl | rfl <;> exact ⟨by simp [go_sem, totV], by simp [go_sem]⟩⟩⟩
  case round =>
    obtain ⟨i, hik, rfl, hW, -, HN⟩ := hrel
    by_cases hlt : i < L.length
    · obtain ⟨c, hc⟩ := get_some hlt
      obtain ⟨b, off, a1, a2, a3, k1, k2, k3, rfl, hb, x0, x1, x2, x3, hC⟩ := HL.out i c hc
      have c0 := (hW.cell (p := ⟨b, off + i * 4, none⟩) hb).trans x0
      have c1 := (hW.cell (p := ⟨b, off + i * 4 + 1, none⟩) hb).trans x1
      have c2 := (hW.cell (p := ⟨b, off + i * 4 + 2, none⟩) hb).trans x2
      have c3 := (hW.cell (p := ⟨b, off + i * 4 + 3, none⟩) hb).trans x3
      have HI := Lib.hid hc
      have HC := Lib.hid hC
      have hd8 := (lib_lens HP.out hc).2.2.1
      have hN0 := HN.out.1
      obtain ⟨d0, f0⟩ := HN.out.2 i (by omega)
      have q1 : ((i : Nat) : Int) < (L.length : Int) := by omega
      have q0 : (0 : Int) ≤ ((i : Nat) : Int) := by omega
      have q8 : ((i : Nat) : Int) < 8 := by omega
      have hwn : w.heap.size + 1 < wr.heap.size := hN0
      clear hc hC x0 x1 x2 x3
      go_wp2_with fail
      go_loopw [28] (fun s4 wr2 => ∃ t : Nat, t ≤ c.d.length ∧ s4 = .int .i64 (t : Nat) ∧ Below w.heap.size w wr2 ∧ Hid (NumAt wr2 (w.heap.size + 1) (updV (totV dpAdd 0 L i) i (accF dpAdd (totV dpAdd 0 L i) c.d 0 t)))) (fun s4 _ => c.d.length - (intOf s4).toNat)
      case atStart =>
        refine ⟨0, by omega, rfl, by (repeat (first | (with_reducible exact Below.refl _ _) | (with_reducible refine Ext.drewN ?_ _) | (with_reducible refine Below.drew ?_) | (with_reducible refine Ext.alloc ?_ _) | (with_reducible refine Ext.setCell ?_ (by simp; try omega) _) | (with_reducible refine Ext.trans ?_ (by assumption)) | (with_reducible assumption) | exact Below.refl _ _)), Lib.hid ?_⟩
        rw [accF_zero]
        exact (HN.out.set (i := i) (by omega) _).below (B := wr.heap.size) ((Below.refl _ _).alloc (by simp) _) (by simp)
      case round =>
        clear c0 c1 c2 c3 d0 f0 hW HN hN0 hwn
        obtain ⟨t, htk, rfl, hW, HN⟩ := hrel
        have hN0 := HN.out.1
        have d0 := (HN.out.2 i (by omega)).1
        have f0 := (HN.out.2 i (by omega)).2
        rw [updV_same] at d0
        by_cases hlt2 : t < c.d.length
        · obtain ⟨s, hsi⟩ := get_some hlt2
          obtain ⟨b', off', rfl, hb', c0, c1, c2, c3, c4, c5, c6, c7⟩ := ins_at (HC.out.2.2.below hW) hsi
          have hin := (lib_ins HP.out HI.out hsi).1
          have d1 := (HN.out.2 s.c.toNat (by omega)).1
          rw [updV_other _ _ (by omega)] at d1
          obtain ⟨r1, r2⟩ := hin
          have r3 : s.c < 8 := by omega
          have q5 : ((t : Nat) : Int) < (c.d.length : Int) := by omega
          have q6 : (0 : Int) ≤ ((t : Nat) : Int) := by omega
          have HS := Lib.hid hsi
          have hwn : w.heap.size + 1 < wr.heap.size := hN0
          clear hsi
          go_upto_region 9 with fail
          go_region_with (first | (go_at_call 46; refine (HF.out i c t s HI.out HS.out _).mono ?_; rintro e v ⟨rfl, bv⟩; have HBV := Lib.hid bv; have d2 : v.cell? ⟨w.heap.size + 1, i, none⟩ = some (.int .i64 (accF dpAdd (totV dpAdd 0 L i) c.d 0 t)) := keepC bv (by simp [go_sem, *]); have f2 : v.frozen? ⟨w.heap.size + 1, i, none⟩ = false := (bv.frozen (p := ⟨w.heap.size + 1, i, none⟩) (by simp; omega)).trans (by simp [go_sem, *]); clear bv))
          all_goals
            have HN2 : Hid (NumAt (v.setCell ⟨w.heap.size + 1, i, none⟩ (.int .i64 (accF dpAdd (totV dpAdd 0 L i) c.d 0 (t + 1)))) (w.heap.size + 1) (updV (totV dpAdd 0 L i) i (accF dpAdd (totV dpAdd 0 L i) c.d 0 (t + 1)))) := Lib.hid (((HN.out.below (B := wr.heap.size) (by have bv := HBV.out; (repeat (first | (with_reducible exact Below.refl _ _) | (with_reducible refine Ext.drewN ?_ _) | (with_reducible refine Below.drew ?_) | (with_reducible refine Ext.alloc ?_ _) | (with_reducible refine Ext.setCell ?_ (by simp; try omega) _) | (with_reducible refine Ext.trans ?_ (by assumption)) | (with_reducible assumption) | exact Below.refl _ _))) (Nat.le_refl _)).set (i := i) (by omega) _).congr (updV_twice _ _ _ _))
            have HW2 : Hid (Below w.heap.size w v) := Lib.hid (by have bv := HBV.out; (repeat (first | (with_reducible exact Below.refl _ _) | (with_reducible refine Ext.drewN ?_ _) | (with_reducible refine Below.drew ?_) | (with_reducible refine Ext.alloc ?_ _) | (with_reducible refine Ext.setCell ?_ (by simp; try omega) _) | (with_reducible refine Ext.trans ?_ (by assumption)) | (with_reducible assumption) | exact Below.refl _ _)))
            clear d0 f0 d1 d2 f2 c0 c1 c2 c3 c4 c5 c6 c7 HN
            go_wp2_with fail
            go_roundw
            case rel => exact ⟨t + 1, by omega, by go_num, by have b := HW2.out; (repeat (first | (with_reducible exact Below.refl _ _) | (with_reducible refine Ext.drewN ?_ _) | (with_reducible refine Below.drew ?_) | (with_reducible refine Ext.alloc ?_ _) | (with_reducible refine Ext.setCell ?_ (by simp; try omega) _) | (with_reducible refine Ext.trans ?_ (by assumption)) | (with_reducible assumption) | exact Below.refl _ _)), HN2⟩
            case measure => simp [intOf]; omega
        · have q5 : ¬ ((t : Nat) : Int) < (c.d.length : Int) := by omega
          have HN1 : Hid (NumAt wr (w.heap.size + 1) (totV dpAdd 0 L (i + 1))) := Lib.hid (HN.out.congr (by rw [show t = c.d.length by omega]; exact tot_step _ _ _ HI.out))
          go_wp2_with fail
          go_roundw
          case rel => exact ⟨i + 1, by omega, by go_num, hW, by omega, HN1⟩
          case measure => simp [intOf]; omega
    · have q1 : ¬ ((i : Nat) : Int) < (L.length : Int) := by omega
      obtain ⟨d0, f0⟩ := HN.out.2 k.toNat (by omega)
      have k8 : k < 8 := by omega
      have HE : Hid (L.length = i) := Lib.hid (by omega)
      go_wp2_with fail
      go_ret
      exact ⟨by first | rfl | (simp [HE.out]; done) | (rw [HE.out]; simp), by (repeat (first | (with_reducible exact Below.refl _ _) | (with_reducible refine Ext.drewN ?_ _) | (with_reducible refine Below.drew ?_) | (with_reducible refine Ext.alloc ?_ _) | (with_reducible refine Ext.setCell ?_ (by simp; try omega) _) | (with_reducible refine Ext.trans ?_ (by assumption)) | (with_reducible assumption) | exact Below.refl _ _))⟩
end Go.Proofs.YtciodcknobccdaaDoor
