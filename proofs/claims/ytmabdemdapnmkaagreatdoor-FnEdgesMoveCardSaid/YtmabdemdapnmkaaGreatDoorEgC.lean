/- The model's edge of a side. Condition: the flags are in memory. -/
import Derived.Test.YtmabdemdapnmkaaGreatDoorEgB
namespace Go.Proofs.YtmabdemdapnmkaaGreatDoor
open Go.RowKit
set_option linter.unusedVariables false
set_option linter.unusedSimpArgs false
attribute [local go_sem ↓] Go.wp_at_zero Go.wp_at_succ

/-- The number in a cell. -/
def cellI (w : World) (b o : Nat) : Int := match w.cell? ⟨b, o, none⟩ with | some (.int _ q) => q | _ => 0
theorem cellI_eq {w : World} {b o : Nat} {k : IntKind} {q : Int} (h : w.cell? ⟨b, o, none⟩ = some (.int k q)) : cellI w b o = q := by simp [cellI, h]
def LoI (f : Nat → Bool) (o : Nat) (c t lo : Int) : Prop := -40 ≤ lo ∧ lo ≤ t ∧ ∀ s, lo ≤ s → s ≤ t → gS f o c s = true
def HiI (f : Nat → Bool) (o : Nat) (c t hi : Int) : Prop := t < hi ∧ hi ≤ 40 ∧ ∀ s, t ≤ s → s < hi → gS f o c s = true
theorem LoI.next {f : Nat → Bool} {o : Nat} {c t lo : Int} (h : LoI f o c t lo) (hg : gS f o c (lo - 1) = true) : LoI f o c t (lo - 1) :=
  ⟨(gS_t hg).1.1, by have := h.2.1; omega, fun s h1 h2 => by
    by_cases e : s = lo - 1
    · rw [e]; exact hg
    · exact h.2.2 s (by omega) h2⟩
theorem HiI.next {f : Nat → Bool} {o : Nat} {c t hi : Int} (h : HiI f o c t hi) (hg : gS f o c hi = true) : HiI f o c t (hi + 1) :=
  ⟨by have := h.1; omega, by have := gS_t hg; omega, fun s h1 h2 => by
    by_cases e : s = hi
    · rw [e]; exact hg
    · exact h.2.2 s h1 (by omega)⟩
theorem MaxI.of {f : Nat → Bool} {o : Nat} {c t lo hi : Int} (h : LoI f o c t lo) (k : HiI f o c t hi) (h1 : gS f o c (lo - 1) = false) (k1 : gS f o c hi = false) : MaxI (gS f o c) lo hi :=
  ⟨by have := h.2.1; have := k.1; omega, fun s s1 s2 => by
    by_cases e : s ≤ t
    · exact h.2.2 s s1 e
    · exact k.2.2 s (by omega) s2, h1, k1⟩

set_option maxHeartbeats 4000000 in
theorem l06Whole_0 (g c' : Nat) (f : Nat → Bool) (c t : Int) (w : World) (hB : BitsIs w g f) (hg : gS f 0 c t = true) :
    Calls Tryz.prog 110 #[.slice (some ⟨g, 0, none⟩) 6400 c', eV (mkE 0 c t (t + 1))] w fun e w' => (∃ lo hi, MaxI (gS f 0 c) lo hi ∧ lo ≤ t ∧ t < hi ∧ e = .returned (eV (mkE 0 c lo hi))) ∧ Below w.heap.size w w' := by
  obtain ⟨⟨t1, t2⟩, c1, c2⟩ := gS_t hg
  have hl0 : LoI f 0 c t t := ⟨t1, Int.le_refl _, fun s h1 h2 => by obtain rfl : s = t := by omega
                                                                    exact hg⟩
  have hh0 : HiI f 0 c t (t + 1) := ⟨by omega, by omega, fun s h1 h2 => by obtain rfl : s = t := by omega
                                                                           exact hg⟩
  have HL0 := Lib.hid hl0
  have HH0 := Lib.hid hh0
  have HB := Lib.hid hB
  have d1 : t - (t + 1) = -1 := by omega
  have d2 : t + 1 - t = 1 := by omega
  clear hB hg hl0 hh0
  have his := fun (x y : Int) (w' : World) (hB' : BitsIs w' g f) (hx : -1000 ≤ x ∧ x ≤ 1000) (hy : -1000 ≤ y ∧ y ≤ 1000) => l06Is_any g c' f 0 (by decide) x y w' hB' hx hy
  simp only [dX, dY] at his
  dsimp only [eV, mkE]
  go_enter Tryz.func110, Tryz.ntmps110
  go_wp2_with fail
  go_loopw [21] (fun _ wr => ∃ u, LoI f 0 c t u ∧ RectAt wr w.heap.size u c (t + 1) c ∧ RectAt wr (w.heap.size + 1) 0 0 0 0 ∧ Below w.heap.size w wr) (fun _ wr => (41 + cellI wr w.heap.size 0).toNat)
  case atStart => exact ⟨t, HL0.out, by unfold RectAt; simp [go_sem], by unfold RectAt; simp [go_sem], by (repeat (first | (with_reducible exact Below.refl _ _) | (with_reducible refine Ext.drewN ?_ _) | (with_reducible refine Below.drew ?_) | (with_reducible refine Ext.alloc ?_ _) | (with_reducible refine Ext.setCell ?_ (by simp; try omega) _) | (with_reducible refine Ext.trans ?_ (by assumption)) | (with_reducible assumption) | exact Below.refl _ _))⟩
  case round =>
    obtain ⟨u, hu, ⟨a0, a1, a2, a3, f0, f1, f2, f3⟩, hb, hW⟩ := hrel
    have HU := Lib.hid hu
    obtain ⟨u1, u2, -⟩ := hu
    have HBr := Lib.hid (HB.out.below hW)
    have hsz := hb.lt
    have z0 : w.heap.size < wr.heap.size := by omega
    cases hc : gS f 0 c (u - 1)
    · have HC := Lib.hid hc
      have hc' : sB f 0 (u - 1) c = false := hc
      go_wp2_with (go_at_call 108; refine (his _ _ _ HBr.out (by omega) (by omega)).mono ?_; rintro e w1 ⟨rfl, rfl⟩; rw [hc'])
      go_loopw [41] (fun _ wr => ∃ v, HiI f 0 c t v ∧ RectAt wr w.heap.size u c v c ∧ RectAt wr (w.heap.size + 1) 0 0 0 0 ∧ Below w.heap.size w wr) (fun _ wr => (41 - cellI wr w.heap.size 2).toNat)
      case atStart => exact ⟨t + 1, HH0.out, ⟨by assumption, by assumption, by assumption, by assumption, by assumption, by assumption, by assumption, by assumption⟩, hb, hW⟩
      case round =>
        rename World => wq
        obtain ⟨v, hv, ⟨b0, b1, b2, b3, k0, k1, k2, k3⟩, hb', hW'⟩ := hrel
        have HV := Lib.hid hv
        obtain ⟨v1, v2, -⟩ := hv
        have HBq := Lib.hid (HB.out.below hW')
        have hsz' := hb'.lt
        have z1 : w.heap.size < wq.heap.size := by omega
        cases hk : gS f 0 c v
        · have hk' : sB f 0 v c = false := hk
          have HK := Lib.hid hk
          have HR9 := Lib.hid hb'
          obtain ⟨i0, i1, i2, i3, j0, j1, j2, j3⟩ := hb'
          go_wp2_with (go_at_call 108; refine (his _ _ _ HBq.out (by omega) (by omega)).mono ?_; rintro e w1 ⟨rfl, rfl⟩; rw [hk'])
          obtain ⟨e0, e1, e2, e3, -⟩ := RectAt.set HR9.out (mkE 0 c u v).a (mkE 0 c u v).b (mkE 0 c u v).c (mkE 0 c u v).d
          simp only [mkE] at e0 e1 e2 e3
          refine bodyPost_ret (v := eV (mkE 0 c u v)) (by simp [*, eV, mkE, results, Tryz.results110, go_sem]) rfl ⟨⟨_, _, MaxI.of HU.out HV.out HC.out HK.out, by first | exact u2 | exact v2, by first | exact u1 | exact v1, rfl⟩, ?_⟩
          (repeat (first | (with_reducible exact Below.refl _ _) | (with_reducible refine Ext.drewN ?_ _) | (with_reducible refine Below.drew ?_) | (with_reducible refine Ext.alloc ?_ _) | (with_reducible refine Ext.setCell ?_ (by simp; try omega) _) | (with_reducible refine Ext.trans ?_ (by assumption)) | (with_reducible assumption) | exact Below.refl _ _))
        · have hk' : sB f 0 v c = true := hk
          have HK := Lib.hid hk
          have hk2 := gS_t hk
          go_wp2_with (go_at_call 108; refine (his _ _ _ HBq.out (by omega) (by omega)).mono ?_; rintro e w1 ⟨rfl, rfl⟩; rw [hk'])
          go_roundw
          case rel => exact ⟨v + 1, HV.out.next HK.out, by unfold RectAt; (simp [*, go_sem]) <;> omega, by unfold RectAt at hb' ⊢; simp [*, go_sem], by (repeat (first | (with_reducible exact Below.refl _ _) | (with_reducible refine Ext.drewN ?_ _) | (with_reducible refine Below.drew ?_) | (with_reducible refine Ext.alloc ?_ _) | (with_reducible refine Ext.setCell ?_ (by simp; try omega) _) | (with_reducible refine Ext.trans ?_ (by assumption)) | (with_reducible assumption) | exact Below.refl _ _))⟩
          case measure => simp [cellI, *, go_sem]; omega
    · have hc' : sB f 0 (u - 1) c = true := hc
      have HC := Lib.hid hc
      have hk1 := gS_t hc
      go_wp2_with (go_at_call 108; refine (his _ _ _ HBr.out (by omega) (by omega)).mono ?_; rintro e w1 ⟨rfl, rfl⟩; rw [hc'])
      go_roundw
      case rel => exact ⟨u - 1, HU.out.next HC.out, by unfold RectAt; simp [*, go_sem], by unfold RectAt at hb ⊢; simp [*, go_sem], by (repeat (first | (with_reducible exact Below.refl _ _) | (with_reducible refine Ext.drewN ?_ _) | (with_reducible refine Below.drew ?_) | (with_reducible refine Ext.alloc ?_ _) | (with_reducible refine Ext.setCell ?_ (by simp; try omega) _) | (with_reducible refine Ext.trans ?_ (by assumption)) | (with_reducible assumption) | exact Below.refl _ _))⟩
      case measure => simp [cellI, *, go_sem]; omega

set_option maxHeartbeats 4000000 in
theorem l06Whole_1 (g c' : Nat) (f : Nat → Bool) (c t : Int) (w : World) (hB : BitsIs w g f) (hg : gS f 1 c t = true) :
    Calls Tryz.prog 110 #[.slice (some ⟨g, 0, none⟩) 6400 c', eV (mkE 1 c t (t + 1))] w fun e w' => (∃ lo hi, MaxI (gS f 1 c) lo hi ∧ lo ≤ t ∧ t < hi ∧ e = .returned (eV (mkE 1 c lo hi))) ∧ Below w.heap.size w w' := by
  obtain ⟨⟨t1, t2⟩, c1, c2⟩ := gS_t hg
  have hl0 : LoI f 1 c t t := ⟨t1, Int.le_refl _, fun s h1 h2 => by obtain rfl : s = t := by omega
                                                                    exact hg⟩
  have hh0 : HiI f 1 c t (t + 1) := ⟨by omega, by omega, fun s h1 h2 => by obtain rfl : s = t := by omega
                                                                           exact hg⟩
  have HL0 := Lib.hid hl0
  have HH0 := Lib.hid hh0
  have HB := Lib.hid hB
  have d1 : t - (t + 1) = -1 := by omega
  have d2 : t + 1 - t = 1 := by omega
  clear hB hg hl0 hh0
  have his := fun (x y : Int) (w' : World) (hB' : BitsIs w' g f) (hx : -1000 ≤ x ∧ x ≤ 1000) (hy : -1000 ≤ y ∧ y ≤ 1000) => l06Is_any g c' f 1 (by decide) x y w' hB' hx hy
  simp only [dX, dY] at his
  dsimp only [eV, mkE]
  go_enter Tryz.func110, Tryz.ntmps110
  go_wp2_with fail
  go_loopw [21] (fun _ wr => ∃ u, HiI f 1 c t u ∧ RectAt wr w.heap.size u c t c ∧ RectAt wr (w.heap.size + 1) 0 0 0 0 ∧ Below w.heap.size w wr) (fun _ wr => (41 - cellI wr w.heap.size 0).toNat)
  case atStart => exact ⟨t + 1, HH0.out, by unfold RectAt; simp [go_sem], by unfold RectAt; simp [go_sem], by (repeat (first | (with_reducible exact Below.refl _ _) | (with_reducible refine Ext.drewN ?_ _) | (with_reducible refine Below.drew ?_) | (with_reducible refine Ext.alloc ?_ _) | (with_reducible refine Ext.setCell ?_ (by simp; try omega) _) | (with_reducible refine Ext.trans ?_ (by assumption)) | (with_reducible assumption) | exact Below.refl _ _))⟩
  case round =>
    obtain ⟨u, hu, ⟨a0, a1, a2, a3, f0, f1, f2, f3⟩, hb, hW⟩ := hrel
    have HU := Lib.hid hu
    obtain ⟨u1, u2, -⟩ := hu
    have HBr := Lib.hid (HB.out.below hW)
    have hsz := hb.lt
    have z0 : w.heap.size < wr.heap.size := by omega
    cases hc : gS f 1 c u
    · have HC := Lib.hid hc
      have hc' : sB f 1 (u + 1) c = false := by show gS f 1 c (u + 1 - 1) = _; rw [Int.add_sub_cancel]; exact hc
      go_wp2_with (go_at_call 108; refine (his _ _ _ HBr.out (by omega) (by omega)).mono ?_; rintro e w1 ⟨rfl, rfl⟩; rw [hc'])
      go_loopw [41] (fun _ wr => ∃ v, LoI f 1 c t v ∧ RectAt wr w.heap.size u c v c ∧ RectAt wr (w.heap.size + 1) 0 0 0 0 ∧ Below w.heap.size w wr) (fun _ wr => (41 + cellI wr w.heap.size 2).toNat)
      case atStart => exact ⟨t, HL0.out, ⟨by assumption, by assumption, by assumption, by assumption, by assumption, by assumption, by assumption, by assumption⟩, hb, hW⟩
      case round =>
        rename World => wq
        obtain ⟨v, hv, ⟨b0, b1, b2, b3, k0, k1, k2, k3⟩, hb', hW'⟩ := hrel
        have HV := Lib.hid hv
        obtain ⟨v1, v2, -⟩ := hv
        have HBq := Lib.hid (HB.out.below hW')
        have hsz' := hb'.lt
        have z1 : w.heap.size < wq.heap.size := by omega
        cases hk : gS f 1 c (v - 1)
        · have hk' : sB f 1 v c = false := hk
          have HK := Lib.hid hk
          have HR9 := Lib.hid hb'
          obtain ⟨i0, i1, i2, i3, j0, j1, j2, j3⟩ := hb'
          go_wp2_with (go_at_call 108; refine (his _ _ _ HBq.out (by omega) (by omega)).mono ?_; rintro e w1 ⟨rfl, rfl⟩; rw [hk'])
          obtain ⟨e0, e1, e2, e3, -⟩ := RectAt.set HR9.out (mkE 1 c v u).a (mkE 1 c v u).b (mkE 1 c v u).c (mkE 1 c v u).d
          simp only [mkE] at e0 e1 e2 e3
          refine bodyPost_ret (v := eV (mkE 1 c v u)) (by simp [*, eV, mkE, results, Tryz.results110, go_sem]) rfl ⟨⟨_, _, MaxI.of HV.out HU.out HK.out HC.out, by first | exact u2 | exact v2, by first | exact u1 | exact v1, rfl⟩, ?_⟩
          (repeat (first | (with_reducible exact Below.refl _ _) | (with_reducible refine Ext.drewN ?_ _) | (with_reducible refine Below.drew ?_) | (with_reducible refine Ext.alloc ?_ _) | (with_reducible refine Ext.setCell ?_ (by simp; try omega) _) | (with_reducible refine Ext.trans ?_ (by assumption)) | (with_reducible assumption) | exact Below.refl _ _))
        · have hk' : sB f 1 v c = true := hk
          have HK := Lib.hid hk
          have hk2 := gS_t hk
          go_wp2_with (go_at_call 108; refine (his _ _ _ HBq.out (by omega) (by omega)).mono ?_; rintro e w1 ⟨rfl, rfl⟩; rw [hk'])
          go_roundw
          case rel => exact ⟨v - 1, HV.out.next HK.out, by unfold RectAt; (simp [*, go_sem]) <;> omega, by unfold RectAt at hb' ⊢; simp [*, go_sem], by (repeat (first | (with_reducible exact Below.refl _ _) | (with_reducible refine Ext.drewN ?_ _) | (with_reducible refine Below.drew ?_) | (with_reducible refine Ext.alloc ?_ _) | (with_reducible refine Ext.setCell ?_ (by simp; try omega) _) | (with_reducible refine Ext.trans ?_ (by assumption)) | (with_reducible assumption) | exact Below.refl _ _))⟩
          case measure => simp [cellI, *, go_sem]; omega
    · have hc' : sB f 1 (u + 1) c = true := by show gS f 1 c (u + 1 - 1) = _; rw [Int.add_sub_cancel]; exact hc
      have HC := Lib.hid hc
      have hk1 := gS_t hc
      go_wp2_with (go_at_call 108; refine (his _ _ _ HBr.out (by omega) (by omega)).mono ?_; rintro e w1 ⟨rfl, rfl⟩; rw [hc'])
      go_roundw
      case rel => exact ⟨u + 1, HU.out.next HC.out, by unfold RectAt; simp [*, go_sem], by unfold RectAt at hb ⊢; simp [*, go_sem], by (repeat (first | (with_reducible exact Below.refl _ _) | (with_reducible refine Ext.drewN ?_ _) | (with_reducible refine Below.drew ?_) | (with_reducible refine Ext.alloc ?_ _) | (with_reducible refine Ext.setCell ?_ (by simp; try omega) _) | (with_reducible refine Ext.trans ?_ (by assumption)) | (with_reducible assumption) | exact Below.refl _ _))⟩
      case measure => simp [cellI, *, go_sem]; omega

set_option maxHeartbeats 4000000 in
theorem l06Whole_2 (g c' : Nat) (f : Nat → Bool) (c t : Int) (w : World) (hB : BitsIs w g f) (hg : gS f 2 c t = true) :
    Calls Tryz.prog 110 #[.slice (some ⟨g, 0, none⟩) 6400 c', eV (mkE 2 c t (t + 1))] w fun e w' => (∃ lo hi, MaxI (gS f 2 c) lo hi ∧ lo ≤ t ∧ t < hi ∧ e = .returned (eV (mkE 2 c lo hi))) ∧ Below w.heap.size w w' := by
  obtain ⟨⟨t1, t2⟩, c1, c2⟩ := gS_t hg
  have hl0 : LoI f 2 c t t := ⟨t1, Int.le_refl _, fun s h1 h2 => by obtain rfl : s = t := by omega
                                                                    exact hg⟩
  have hh0 : HiI f 2 c t (t + 1) := ⟨by omega, by omega, fun s h1 h2 => by obtain rfl : s = t := by omega
                                                                           exact hg⟩
  have HL0 := Lib.hid hl0
  have HH0 := Lib.hid hh0
  have HB := Lib.hid hB
  have d1 : t - (t + 1) = -1 := by omega
  have d2 : t + 1 - t = 1 := by omega
  clear hB hg hl0 hh0
  have his := fun (x y : Int) (w' : World) (hB' : BitsIs w' g f) (hx : -1000 ≤ x ∧ x ≤ 1000) (hy : -1000 ≤ y ∧ y ≤ 1000) => l06Is_any g c' f 2 (by decide) x y w' hB' hx hy
  simp only [dX, dY] at his
  dsimp only [eV, mkE]
  go_enter Tryz.func110, Tryz.ntmps110
  go_wp2_with fail
  go_loopw [21] (fun _ wr => ∃ u, LoI f 2 c t u ∧ RectAt wr w.heap.size c u c (t + 1) ∧ RectAt wr (w.heap.size + 1) 0 0 0 0 ∧ Below w.heap.size w wr) (fun _ wr => (41 + cellI wr w.heap.size 1).toNat)
  case atStart => exact ⟨t, HL0.out, by unfold RectAt; simp [go_sem], by unfold RectAt; simp [go_sem], by (repeat (first | (with_reducible exact Below.refl _ _) | (with_reducible refine Ext.drewN ?_ _) | (with_reducible refine Below.drew ?_) | (with_reducible refine Ext.alloc ?_ _) | (with_reducible refine Ext.setCell ?_ (by simp; try omega) _) | (with_reducible refine Ext.trans ?_ (by assumption)) | (with_reducible assumption) | exact Below.refl _ _))⟩
  case round =>
    obtain ⟨u, hu, ⟨a0, a1, a2, a3, f0, f1, f2, f3⟩, hb, hW⟩ := hrel
    have HU := Lib.hid hu
    obtain ⟨u1, u2, -⟩ := hu
    have HBr := Lib.hid (HB.out.below hW)
    have hsz := hb.lt
    have z0 : w.heap.size < wr.heap.size := by omega
    cases hc : gS f 2 c (u - 1)
    · have HC := Lib.hid hc
      have hc' : sB f 2 c (u - 1) = false := hc
      go_wp2_with (go_at_call 108; refine (his _ _ _ HBr.out (by omega) (by omega)).mono ?_; rintro e w1 ⟨rfl, rfl⟩; rw [hc'])
      go_loopw [41] (fun _ wr => ∃ v, HiI f 2 c t v ∧ RectAt wr w.heap.size c u c v ∧ RectAt wr (w.heap.size + 1) 0 0 0 0 ∧ Below w.heap.size w wr) (fun _ wr => (41 - cellI wr w.heap.size 3).toNat)
      case atStart => exact ⟨t + 1, HH0.out, ⟨by assumption, by assumption, by assumption, by assumption, by assumption, by assumption, by assumption, by assumption⟩, hb, hW⟩
      case round =>
        rename World => wq
        obtain ⟨v, hv, ⟨b0, b1, b2, b3, k0, k1, k2, k3⟩, hb', hW'⟩ := hrel
        have HV := Lib.hid hv
        obtain ⟨v1, v2, -⟩ := hv
        have HBq := Lib.hid (HB.out.below hW')
        have hsz' := hb'.lt
        have z1 : w.heap.size < wq.heap.size := by omega
        cases hk : gS f 2 c v
        · have hk' : sB f 2 c v = false := hk
          have HK := Lib.hid hk
          have HR9 := Lib.hid hb'
          obtain ⟨i0, i1, i2, i3, j0, j1, j2, j3⟩ := hb'
          go_wp2_with (go_at_call 108; refine (his _ _ _ HBq.out (by omega) (by omega)).mono ?_; rintro e w1 ⟨rfl, rfl⟩; rw [hk'])
          obtain ⟨e0, e1, e2, e3, -⟩ := RectAt.set HR9.out (mkE 2 c u v).a (mkE 2 c u v).b (mkE 2 c u v).c (mkE 2 c u v).d
          simp only [mkE] at e0 e1 e2 e3
          refine bodyPost_ret (v := eV (mkE 2 c u v)) (by simp [*, eV, mkE, results, Tryz.results110, go_sem]) rfl ⟨⟨_, _, MaxI.of HU.out HV.out HC.out HK.out, by first | exact u2 | exact v2, by first | exact u1 | exact v1, rfl⟩, ?_⟩
          (repeat (first | (with_reducible exact Below.refl _ _) | (with_reducible refine Ext.drewN ?_ _) | (with_reducible refine Below.drew ?_) | (with_reducible refine Ext.alloc ?_ _) | (with_reducible refine Ext.setCell ?_ (by simp; try omega) _) | (with_reducible refine Ext.trans ?_ (by assumption)) | (with_reducible assumption) | exact Below.refl _ _))
        · have hk' : sB f 2 c v = true := hk
          have HK := Lib.hid hk
          have hk2 := gS_t hk
          go_wp2_with (go_at_call 108; refine (his _ _ _ HBq.out (by omega) (by omega)).mono ?_; rintro e w1 ⟨rfl, rfl⟩; rw [hk'])
          go_roundw
          case rel => exact ⟨v + 1, HV.out.next HK.out, by unfold RectAt; (simp [*, go_sem]) <;> omega, by unfold RectAt at hb' ⊢; simp [*, go_sem], by (repeat (first | (with_reducible exact Below.refl _ _) | (with_reducible refine Ext.drewN ?_ _) | (with_reducible refine Below.drew ?_) | (with_reducible refine Ext.alloc ?_ _) | (with_reducible refine Ext.setCell ?_ (by simp; try omega) _) | (with_reducible refine Ext.trans ?_ (by assumption)) | (with_reducible assumption) | exact Below.refl _ _))⟩
          case measure => simp [cellI, *, go_sem]; omega
    · have hc' : sB f 2 c (u - 1) = true := hc
      have HC := Lib.hid hc
      have hk1 := gS_t hc
      go_wp2_with (go_at_call 108; refine (his _ _ _ HBr.out (by omega) (by omega)).mono ?_; rintro e w1 ⟨rfl, rfl⟩; rw [hc'])
      go_roundw
      case rel => exact ⟨u - 1, HU.out.next HC.out, by unfold RectAt; simp [*, go_sem], by unfold RectAt at hb ⊢; simp [*, go_sem], by (repeat (first | (with_reducible exact Below.refl _ _) | (with_reducible refine Ext.drewN ?_ _) | (with_reducible refine Below.drew ?_) | (with_reducible refine Ext.alloc ?_ _) | (with_reducible refine Ext.setCell ?_ (by simp; try omega) _) | (with_reducible refine Ext.trans ?_ (by assumption)) | (with_reducible assumption) | exact Below.refl _ _))⟩
      case measure => simp [cellI, *, go_sem]; omega

set_option maxHeartbeats 4000000 in
theorem l06Whole_3 (g c' : Nat) (f : Nat → Bool) (c t : Int) (w : World) (hB : BitsIs w g f) (hg : gS f 3 c t = true) :
    Calls Tryz.prog 110 #[.slice (some ⟨g, 0, none⟩) 6400 c', eV (mkE 3 c t (t + 1))] w fun e w' => (∃ lo hi, MaxI (gS f 3 c) lo hi ∧ lo ≤ t ∧ t < hi ∧ e = .returned (eV (mkE 3 c lo hi))) ∧ Below w.heap.size w w' := by
  obtain ⟨⟨t1, t2⟩, c1, c2⟩ := gS_t hg
  have hl0 : LoI f 3 c t t := ⟨t1, Int.le_refl _, fun s h1 h2 => by obtain rfl : s = t := by omega
                                                                    exact hg⟩
  have hh0 : HiI f 3 c t (t + 1) := ⟨by omega, by omega, fun s h1 h2 => by obtain rfl : s = t := by omega
                                                                           exact hg⟩
  have HL0 := Lib.hid hl0
  have HH0 := Lib.hid hh0
  have HB := Lib.hid hB
  have d1 : t - (t + 1) = -1 := by omega
  have d2 : t + 1 - t = 1 := by omega
  clear hB hg hl0 hh0
  have his := fun (x y : Int) (w' : World) (hB' : BitsIs w' g f) (hx : -1000 ≤ x ∧ x ≤ 1000) (hy : -1000 ≤ y ∧ y ≤ 1000) => l06Is_any g c' f 3 (by decide) x y w' hB' hx hy
  simp only [dX, dY] at his
  dsimp only [eV, mkE]
  go_enter Tryz.func110, Tryz.ntmps110
  go_wp2_with fail
  go_loopw [21] (fun _ wr => ∃ u, HiI f 3 c t u ∧ RectAt wr w.heap.size c u c t ∧ RectAt wr (w.heap.size + 1) 0 0 0 0 ∧ Below w.heap.size w wr) (fun _ wr => (41 - cellI wr w.heap.size 1).toNat)
  case atStart => exact ⟨t + 1, HH0.out, by unfold RectAt; simp [go_sem], by unfold RectAt; simp [go_sem], by (repeat (first | (with_reducible exact Below.refl _ _) | (with_reducible refine Ext.drewN ?_ _) | (with_reducible refine Below.drew ?_) | (with_reducible refine Ext.alloc ?_ _) | (with_reducible refine Ext.setCell ?_ (by simp; try omega) _) | (with_reducible refine Ext.trans ?_ (by assumption)) | (with_reducible assumption) | exact Below.refl _ _))⟩
  case round =>
    obtain ⟨u, hu, ⟨a0, a1, a2, a3, f0, f1, f2, f3⟩, hb, hW⟩ := hrel
    have HU := Lib.hid hu
    obtain ⟨u1, u2, -⟩ := hu
    have HBr := Lib.hid (HB.out.below hW)
    have hsz := hb.lt
    have z0 : w.heap.size < wr.heap.size := by omega
    cases hc : gS f 3 c u
    · have HC := Lib.hid hc
      have hc' : sB f 3 c (u + 1) = false := by show gS f 3 c (u + 1 - 1) = _; rw [Int.add_sub_cancel]; exact hc
      go_wp2_with (go_at_call 108; refine (his _ _ _ HBr.out (by omega) (by omega)).mono ?_; rintro e w1 ⟨rfl, rfl⟩; rw [hc'])
      go_loopw [41] (fun _ wr => ∃ v, LoI f 3 c t v ∧ RectAt wr w.heap.size c u c v ∧ RectAt wr (w.heap.size + 1) 0 0 0 0 ∧ Below w.heap.size w wr) (fun _ wr => (41 + cellI wr w.heap.size 3).toNat)
      case atStart => exact ⟨t, HL0.out, ⟨by assumption, by assumption, by assumption, by assumption, by assumption, by assumption, by assumption, by assumption⟩, hb, hW⟩
      case round =>
        rename World => wq
        obtain ⟨v, hv, ⟨b0, b1, b2, b3, k0, k1, k2, k3⟩, hb', hW'⟩ := hrel
        have HV := Lib.hid hv
        obtain ⟨v1, v2, -⟩ := hv
        have HBq := Lib.hid (HB.out.below hW')
        have hsz' := hb'.lt
        have z1 : w.heap.size < wq.heap.size := by omega
        cases hk : gS f 3 c (v - 1)
        · have hk' : sB f 3 c v = false := hk
          have HK := Lib.hid hk
          have HR9 := Lib.hid hb'
          obtain ⟨i0, i1, i2, i3, j0, j1, j2, j3⟩ := hb'
          go_wp2_with (go_at_call 108; refine (his _ _ _ HBq.out (by omega) (by omega)).mono ?_; rintro e w1 ⟨rfl, rfl⟩; rw [hk'])
          obtain ⟨e0, e1, e2, e3, -⟩ := RectAt.set HR9.out (mkE 3 c v u).a (mkE 3 c v u).b (mkE 3 c v u).c (mkE 3 c v u).d
          simp only [mkE] at e0 e1 e2 e3
          refine bodyPost_ret (v := eV (mkE 3 c v u)) (by simp [*, eV, mkE, results, Tryz.results110, go_sem]) rfl ⟨⟨_, _, MaxI.of HV.out HU.out HK.out HC.out, by first | exact u2 | exact v2, by first | exact u1 | exact v1, rfl⟩, ?_⟩
          (repeat (first | (with_reducible exact Below.refl _ _) | (with_reducible refine Ext.drewN ?_ _) | (with_reducible refine Below.drew ?_) | (with_reducible refine Ext.alloc ?_ _) | (with_reducible refine Ext.setCell ?_ (by simp; try omega) _) | (with_reducible refine Ext.trans ?_ (by assumption)) | (with_reducible assumption) | exact Below.refl _ _))
        · have hk' : sB f 3 c v = true := hk
          have HK := Lib.hid hk
          have hk2 := gS_t hk
          go_wp2_with (go_at_call 108; refine (his _ _ _ HBq.out (by omega) (by omega)).mono ?_; rintro e w1 ⟨rfl, rfl⟩; rw [hk'])
          go_roundw
          case rel => exact ⟨v - 1, HV.out.next HK.out, by unfold RectAt; (simp [*, go_sem]) <;> omega, by unfold RectAt at hb' ⊢; simp [*, go_sem], by (repeat (first | (with_reducible exact Below.refl _ _) | (with_reducible refine Ext.drewN ?_ _) | (with_reducible refine Below.drew ?_) | (with_reducible refine Ext.alloc ?_ _) | (with_reducible refine Ext.setCell ?_ (by simp; try omega) _) | (with_reducible refine Ext.trans ?_ (by assumption)) | (with_reducible assumption) | exact Below.refl _ _))⟩
          case measure => simp [cellI, *, go_sem]; omega
    · have hc' : sB f 3 c (u + 1) = true := by show gS f 3 c (u + 1 - 1) = _; rw [Int.add_sub_cancel]; exact hc
      have HC := Lib.hid hc
      have hk1 := gS_t hc
      go_wp2_with (go_at_call 108; refine (his _ _ _ HBr.out (by omega) (by omega)).mono ?_; rintro e w1 ⟨rfl, rfl⟩; rw [hc'])
      go_roundw
      case rel => exact ⟨u + 1, HU.out.next HC.out, by unfold RectAt; simp [*, go_sem], by unfold RectAt at hb ⊢; simp [*, go_sem], by (repeat (first | (with_reducible exact Below.refl _ _) | (with_reducible refine Ext.drewN ?_ _) | (with_reducible refine Below.drew ?_) | (with_reducible refine Ext.alloc ?_ _) | (with_reducible refine Ext.setCell ?_ (by simp; try omega) _) | (with_reducible refine Ext.trans ?_ (by assumption)) | (with_reducible assumption) | exact Below.refl _ _))⟩
      case measure => simp [cellI, *, go_sem]; omega

theorem l06Whole_any (g c' : Nat) (f : Nat → Bool) (o : Nat) (ho : o < 4) (c t : Int) (w : World) (hB : BitsIs w g f) (hg : gS f o c t = true) :
    Calls Tryz.prog 110 #[.slice (some ⟨g, 0, none⟩) 6400 c', eV (mkE o c t (t + 1))] w fun e w' => (∃ lo hi, MaxI (gS f o c) lo hi ∧ lo ≤ t ∧ t < hi ∧ e = .returned (eV (mkE o c lo hi))) ∧ Below w.heap.size w w' := by
  rcases o4 ho with rfl | rfl | rfl | rfl
  · exact l06Whole_0 g c' f c t w hB hg
  · exact l06Whole_1 g c' f c t w hB hg
  · exact l06Whole_2 g c' f c t w hB hg
  · exact l06Whole_3 g c' f c t w hB hg
end Go.Proofs.YtmabdemdapnmkaaGreatDoor
