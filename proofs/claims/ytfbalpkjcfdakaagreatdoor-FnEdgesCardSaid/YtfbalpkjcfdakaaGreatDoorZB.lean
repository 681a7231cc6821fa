/- The model's sides: whether a side is there, the edge of which it is part, the order. Condition: the flags are in memory. -/
import Derived.Test.YtfbalpkjcfdakaaGreatDoorZA
import Derived.Test.YtfbalpkjcfdakaaGreatDoorQC
namespace Go.Proofs.YtfbalpkjcfdakaaGreatDoor
open Go.RowKit
set_option linter.unusedVariables false
set_option linter.unusedSimpArgs false
attribute [local go_sem ↓] Go.wp_at_zero Go.wp_at_succ

/-- An edge as a value. -/
abbrev eV (e : R4) : Value := .agg #[.int .i64 e.a, .int .i64 e.b, .int .i64 e.c, .int .i64 e.d]
def dX (o : Nat) : Int := match o with | 0 => 1 | 1 => -1 | _ => 0
def dY (o : Nat) : Int := match o with | 0 => 0 | 1 => 0 | 2 => 1 | _ => -1
/-- The side that begins at a point, in a direction. -/
def sB (f : Nat → Bool) (o : Nat) (x y : Int) : Bool :=
  match o with
  | 0 => gS f 0 y x
  | 1 => gS f 1 y (x - 1)
  | 2 => gS f 2 x y
  | _ => gS f 3 x (y - 1)

set_option maxHeartbeats 2000000 in
theorem l06Is_any (g c : Nat) (f : Nat → Bool) (o : Nat) (ho : o < 4) (x y : Int) (w : World) (hB : BitsIs w g f) (hx : -1000 ≤ x ∧ x ≤ 1000) (hy : -1000 ≤ y ∧ y ≤ 1000) :
    Calls Tryz.prog 96 #[.slice (some ⟨g, 0, none⟩) 6400 c, .int .i64 x, .int .i64 y, .int .i64 (dX o), .int .i64 (dY o)] w fun e w' => e = .returned (.bool (sB f o x y)) ∧ w = w' := by
  obtain ⟨x1, x2⟩ := hx
  obtain ⟨y1, y2⟩ := hy
  have e1 : IntKind.i64.wrap (x - 1) = x - 1 := by rw [IntKind.wrap_i64]; omega
  have e2 : IntKind.i64.wrap (y - 1) = y - 1 := by rw [IntKind.wrap_i64]; omega
  have HB := Lib.hid hB
  clear hB
  rcases o4 ho with rfl | rfl | rfl | rfl
  · have hv : sB f 0 x y = (hasB f x y && !hasB f x (y - 1)) := rfl
    rw [hv]
    cases hp : hasB f x y
    all_goals
      cases hq : hasB f x (y - 1)
      all_goals
        go_enter Tryz.func96, Tryz.ntmps96
        go_wp2_with (go_at_call 127; refine (l03Has_any g c f _ _ _ HB.out).mono ?_; rintro e w1 ⟨rfl, rfl⟩; first | rw [hp] | rw [hq])
        go_ret
        exact ⟨ret_bool (by simp), rfl⟩
  · have hv : sB f 1 x y = (hasB f (x - 1) (y - 1) && !hasB f (x - 1) y) := rfl
    rw [hv]
    cases hp : hasB f (x - 1) (y - 1)
    all_goals
      cases hq : hasB f (x - 1) y
      all_goals
        go_enter Tryz.func96, Tryz.ntmps96
        go_wp2_with (go_at_call 127; refine (l03Has_any g c f _ _ _ HB.out).mono ?_; rintro e w1 ⟨rfl, rfl⟩; first | rw [hp] | rw [hq])
        go_ret
        exact ⟨ret_bool (by simp), rfl⟩
  · have hv : sB f 2 x y = (hasB f (x - 1) y && !hasB f x y) := rfl
    rw [hv]
    cases hp : hasB f (x - 1) y
    all_goals
      cases hq : hasB f x y
      all_goals
        go_enter Tryz.func96, Tryz.ntmps96
        go_wp2_with (go_at_call 127; refine (l03Has_any g c f _ _ _ HB.out).mono ?_; rintro e w1 ⟨rfl, rfl⟩; first | rw [hp] | rw [hq])
        go_ret
        exact ⟨ret_bool (by simp), rfl⟩
  · have hv : sB f 3 x y = (hasB f x (y - 1) && !hasB f (x - 1) (y - 1)) := rfl
    rw [hv]
    cases hp : hasB f x (y - 1)
    all_goals
      cases hq : hasB f (x - 1) (y - 1)
      all_goals
        go_enter Tryz.func96, Tryz.ntmps96
        go_wp2_with (go_at_call 127; refine (l03Has_any g c f _ _ _ HB.out).mono ?_; rintro e w1 ⟨rfl, rfl⟩; first | rw [hp] | rw [hq])
        go_ret
        exact ⟨ret_bool (by simp), rfl⟩

theorem l06Less_any (e g : R4) (w : World) :
    Calls Tryz.prog 135 #[eV e, eV g] w fun r w' => r = .returned (.bool (decide (ltE e g))) ∧ Below w.heap.size w w' := by
  by_cases h1 : e.b = g.b
  · by_cases h2 : e.a = g.a
    · by_cases h3 : e.d = g.d
      · go_enter Tryz.func135, Tryz.ntmps135
        go_wp2_with fail
        go_ret
        exact ⟨ret_bool (by rw [decide_eq_decide]; unfold ltE; omega), by (repeat (first | (with_reducible exact Below.refl _ _) | (with_reducible refine Ext.drewN ?_ _) | (with_reducible refine Below.drew ?_) | (with_reducible refine Ext.alloc ?_ _) | (with_reducible refine Ext.setCell ?_ (by simp; try omega) _) | (with_reducible refine Ext.trans ?_ (by assumption)) | (with_reducible assumption) | exact Below.refl _ _))⟩
      · go_enter Tryz.func135, Tryz.ntmps135
        go_wp2_with fail
        go_ret
        exact ⟨ret_bool (by rw [decide_eq_decide]; unfold ltE; omega), by (repeat (first | (with_reducible exact Below.refl _ _) | (with_reducible refine Ext.drewN ?_ _) | (with_reducible refine Below.drew ?_) | (with_reducible refine Ext.alloc ?_ _) | (with_reducible refine Ext.setCell ?_ (by simp; try omega) _) | (with_reducible refine Ext.trans ?_ (by assumption)) | (with_reducible assumption) | exact Below.refl _ _))⟩
    · go_enter Tryz.func135, Tryz.ntmps135
      go_wp2_with fail
      go_ret
      exact ⟨ret_bool (by rw [decide_eq_decide]; unfold ltE; omega), by (repeat (first | (with_reducible exact Below.refl _ _) | (with_reducible refine Ext.drewN ?_ _) | (with_reducible refine Below.drew ?_) | (with_reducible refine Ext.alloc ?_ _) | (with_reducible refine Ext.setCell ?_ (by simp; try omega) _) | (with_reducible refine Ext.trans ?_ (by assumption)) | (with_reducible assumption) | exact Below.refl _ _))⟩
  · go_enter Tryz.func135, Tryz.ntmps135
    go_wp2_with fail
    go_ret
    exact ⟨ret_bool (by rw [decide_eq_decide]; unfold ltE; omega), by (repeat (first | (with_reducible exact Below.refl _ _) | (with_reducible refine Ext.drewN ?_ _) | (with_reducible refine Below.drew ?_) | (with_reducible refine Ext.alloc ?_ _) | (with_reducible refine Ext.setCell ?_ (by simp; try omega) _) | (with_reducible refine Ext.trans ?_ (by assumption)) | (with_reducible assumption) | exact Below.refl _ _))⟩
end Go.Proofs.YtfbalpkjcfdakaaGreatDoor

namespace Go.Proofs.YtfbalpkjcfdakaaGreatDoor
open Go.RowKit
set_option linter.unusedVariables false
set_option linter.unusedSimpArgs false
attribute [local go_sem ↓] Go.wp_at_zero Go.wp_at_succ

/-- The number in a cell. -/
def cellI (w : World) (b o : Nat) : Int := match w.cell? ⟨b, o, none⟩ with | some (.int _ q) => q | _ => 0
theorem cellI_eq {w : World} {b o : Nat} {k : IntKind} {q : Int} (h : w.cell? ⟨b, o, none⟩ = some (.int k q)) : cellI w b o = q := by simp [cellI, h]
def LoI (f : Nat → Bool) (o : Nat) (c t lo : Int) : Prop := -40 ≤ lo ∧ lo ≤ t ∧ ∀ s, lo ≤ s → s ≤ t → gS f o c s = true
def HiI (f : Nat → Bool) (o : Nat) (c t hi : Int) : Prop := t < hi ∧ hi ≤ 40 ∧ ∀ s, t ≤ s → s < hi → gS f o c s = true
theorem LoI.next {f : Nat → Bool} {o : Nat} {c t lo : Int} (h : LoI f o c t lo) (hg : gS f o c (lo - 1) = true) : LoI f o c t (lo - 1) :=
  ⟨(gS_t hg).1.1, by have := h.2.1; omega, fun s h1 h2 => by
    by_cases e : s = lo - 1
    · rw [e]; exact hg
    · exact h.2.2 s (by omega) h2⟩
theorem HiI.next {f : Nat → Bool} {o : Nat} {c t hi : Int} (h : HiI f o c t hi) (hg : gS f o c hi = true) : HiI f o c t (hi + 1) :=
  ⟨by have := h.1; omega, by have := gS_t hg; omega, fun s h1 h2 => by
    by_cases e : s = hi
    · rw [e]; exact hg
    · exact h.2.2 s h1 (by omega)⟩
theorem MaxI.of {f : Nat → Bool} {o : Nat} {c t lo hi : Int} (h : LoI f o c t lo) (k : HiI f o c t hi) (h1 : gS f o c (lo - 1) = false) (k1 : gS f o c hi = false) : MaxI (gS f o c) lo hi :=
  ⟨by have := h.2.1; have := k.1; omega, fun s s1 s2 => by
    by_cases e : s ≤ t
    · exact h.2.2 s s1 e
    · exact k.2.2 s (by omega) s2, h1, k1⟩

set_option maxHeartbeats 4000000 in
theorem l06Whole_0 (g c' : Nat) (f : Nat → Bool) (c t : Int) (w : World) (hB : BitsIs w g f) (hg : gS f 0 c t = true) :
    Calls Tryz.prog 98 #[.slice (some ⟨g, 0, none⟩) 6400 c', eV (mkE 0 c t (t + 1))] w fun e w' => (∃ lo hi, MaxI (gS f 0 c) lo hi ∧ lo ≤ t ∧ t < hi ∧ e = .returned (eV (mkE 0 c lo hi))) ∧ Below w.heap.size w w' := by
  obtain ⟨⟨t1, t2⟩, c1, c2⟩ := gS_t hg
  have hl0 : LoI f 0 c t t := ⟨t1, Int.le_refl _, fun s h1 h2 => by obtain rfl : s = t := by omega
                                                                    exact hg⟩
  have hh0 : HiI f 0 c t (t + 1) := ⟨by omega, by omega, fun s h1 h2 => by obtain rfl : s = t := by omega
                                                                           exact hg⟩
  have HL0 := Lib.hid hl0
  have HH0 := Lib.hid hh0
  have HB := Lib.hid hB
  have d1 : t - (t + 1) = -1 := by omega
  have d2 : t + 1 - t = 1 := by omega
  clear hB hg hl0 hh0
  have his := fun (x y : Int) (w' : World) (hB' : BitsIs w' g f) (hx : -1000 ≤ x ∧ x ≤ 1000) (hy : -1000 ≤ y ∧ y ≤ 1000) => l06Is_any g c' f 0 (by decide) x y w' hB' hx hy
  simp only [dX, dY] at his
  dsimp only [eV, mkE]
  go_enter Tryz.func98, Tryz.ntmps98
  go_wp2_with fail
  go_loopw [21] (fun _ wr => ∃ u, LoI f 0 c t u ∧ RectAt wr w.heap.size u c (t + 1) c ∧ RectAt wr (w.heap.size + 1) 0 0 0 0 ∧ Below w.heap.size w wr) (fun _ wr => (41 + cellI wr w.heap.size 0).toNat)
  case atStart => exact ⟨t, HL0.out, by unfold RectAt; simp [go_sem], by unfold RectAt; simp [go_sem], by (repeat (first | (with_reducible exact Below.refl _ _) | (with_reducible refine Ext.drewN ?_ _) | (with_reducible refine Below.drew ?_) | (with_reducible refine Ext.alloc ?_ _) | (with_reducible refine Ext.setCell ?_ (by simp; try omega) _) | (with_reducible refine Ext.trans ?_ (by assumption)) | (with_reducible assumption) | exact Below.refl _ _))⟩
  case round =>
    obtain ⟨u, hu, ⟨a0, a1, a2, a3, f0, f1, f2, f3⟩, hb, hW⟩ := hrel
    have HU := Lib.hid hu
    obtain ⟨u1, u2, -⟩ := hu
    have HBr := Lib.hid (HB.out.below hW)
    have hsz := hb.lt
    have z0 : w.heap.size < wr.heap.size := by omega
    cases hc : gS f 0 c (u - 1)
    · have HC := Lib.hid hc
      have hc' : sB f 0 (u - 1) c = false := hc
      go_wp2_with (go_at_call 96; refine (his _ _ _ HBr.out (by omega) (by omega)).mono ?_; rintro e w1 ⟨rfl, rfl⟩; rw [hc'])
      go_loopw [41] (fun _ wr => ∃ v, HiI f 0 c t v ∧ RectAt wr w.heap.size u c v c ∧ RectAt wr (w.heap.size + 1) 0 0 0 0 ∧ Below w.heap.size w wr) (fun _ wr => (41 - cellI wr w.heap.size 2).toNat)
      case atStart => exact ⟨t + 1, HH0.out, ⟨by assumption, by assumption, by assumption, by assumption, by assumption, by assumption, by assumption, by assumption⟩, hb, hW⟩
      case round =>
        rename World => wq
        obtain ⟨v, hv, ⟨b0, b1, b2, b3, k0, k1, k2, k3⟩, hb', hW'⟩ := hrel
        have HV := Lib.hid hv
        obtain ⟨v1, v2, -⟩ := hv
        have HBq := Lib.hid (HB.out.below hW')
        have hsz' := hb'.lt
        have z1 : w.heap.size < wq.heap.size := by omega
        cases hk : gS f 0 c v
        · have hk' : sB f 0 v c = false := hk
          have HK := Lib.hid hk
          have HR9 := Lib.hid hb'
          obtain ⟨i0, i1, i2, i3, j0, j1, j2, j3⟩ := hb'
          go_wp2_with (go_at_call 96; refine (his _ _ _ HBq.out (by omega) (by omega)).mono ?_; rintro e w1 ⟨rfl, rfl⟩; rw [hk'])
          obtain ⟨e0, e1, e2, e3, -⟩ := RectAt.set HR9.out (mkE 0 c u v).a (mkE 0 c u v).b (mkE 0 c u v).c (mkE 0 c u v).d
          simp only [mkE] at e0 e1 e2 e3
          refine bodyPost_ret (v := eV (mkE 0 c u v)) (by simp [*, eV, mkE, results, Tryz.results98, go_sem]) rfl ⟨⟨_, _, MaxI.of HU.out HV.out HC.out HK.out, by first | exact u2 | exact v2, by first | exact u1 | exact v1, rfl⟩, ?_⟩
          (repeat (first | (with_reducible exact Below.refl _ _) | (with_reducible refine Ext.drewN ?_ _) | (with_reducible refine Below.drew ?_) | (with_reducible refine Ext.alloc ?_ _) | (with_reducible refine Ext.setCell ?_ (by simp; try omega) _) | (with_reducible refine Ext.trans ?_ (by assumption)) | (with_reducible assumption) | exact Below.refl _ _))
        · have hk' : sB f 0 v c = true := hk
          have HK := Lib.hid hk
          have hk2 := gS_t hk
          go_wp2_with (go_at_call 96; refine (his _ _ _ HBq.out (by omega) (by omega)).mono ?_; rintro e w1 ⟨rfl, rfl⟩; rw [hk'])
          go_roundw
          case rel => exact ⟨v + 1, HV.out.next HK.out, by unfold RectAt; (simp [*, go_sem]) <;> omega, by unfold RectAt at hb' ⊢; simp [*, go_sem], by (repeat (first | (with_reducible exact Below.refl _ _) | (with_reducible refine Ext.drewN ?_ _) | (with_reducible refine Below.drew ?_) | (with_reducible refine Ext.alloc ?_ _) | (with_reducible refine Ext.setCell ?_ (by simp; try omega) _) | (with_reducible refine Ext.trans ?_ (by assumption)) | (with_reducible assumption) | exact Below.refl _ _))⟩
          case measure => simp [cellI, *, go_sem]; omega
    · have hc' : sB f 0 (u - 1) c = true := hc
      have HC := Lib.hid hc
      have hk1 := gS_t hc
      go_wp2_with (go_at_call 96; refine (his _ _ _ HBr.out (by omega) (by omega)).mono ?_; rintro e w1 ⟨rfl, rfl⟩; rw [hc'])
      go_roundw
      case rel => exact ⟨u - 1, HU.out.next HC.out, by unfold RectAt; simp [*, go_sem], by unfold RectAt at hb ⊢; simp [*, go_sem], by (repeat (first | (with_reducible exact Below.refl _ _) | (with_reducible refine Ext.drewN ?_ _) | (with_reducible refine Below.drew ?_) | (with_reducible refine Ext.alloc ?_ _) | (with_reducible refine Ext.setCell ?_ (by simp; try omega) _) | (with_reducible refine Ext.trans ?_ (by assumption)) | (with_reducible assumption) | exact Below.refl _ _))⟩
      case measure => simp [cellI, *, go_sem]; omega

set_option maxHeartbeats 4000000 in
theorem l06Whole_1 (g c' : Nat) (f : Nat → Bool) (c t : Int) (w : World) (hB : BitsIs w g f) (hg : gS f 1 c t = true) :
    Calls Tryz.prog 98 #[.slice (some ⟨g, 0, none⟩) 6400 c', eV (mkE 1 c t (t + 1))] w fun e w' => (∃ lo hi, MaxI (gS f 1 c) lo hi ∧ lo ≤ t ∧ t < hi ∧ e = .returned (eV (mkE 1 c lo hi))) ∧ Below w.heap.size w w' := by
  obtain ⟨⟨t1, t2⟩, c1, c2⟩ := gS_t hg
  have hl0 : LoI f 1 c t t := ⟨t1, Int.le_refl _, fun s h1 h2 => by obtain rfl : s = t := by omega
                                                                    exact hg⟩
  have hh0 : HiI f 1 c t (t + 1) := ⟨by omega, by omega, fun s h1 h2 => by obtain rfl : s = t := by omega
                                                                           exact hg⟩
  have HL0 := Lib.hid hl0
  have HH0 := Lib.hid hh0
  have HB := Lib.hid hB
  have d1 : t - (t + 1) = -1 := by omega
  have d2 : t + 1 - t = 1 := by omega
  clear hB hg hl0 hh0
  have his := fun (x y : Int) (w' : World) (hB' : BitsIs w' g f) (hx : -1000 ≤ x ∧ x ≤ 1000) (hy : -1000 ≤ y ∧ y ≤ 1000) => l06Is_any g c' f 1 (by decide) x y w' hB' hx hy
  simp only [dX, dY] at his
  dsimp only [eV, mkE]
  go_enter Tryz.func98, Tryz.ntmps98
  go_wp2_with fail
  go_loopw [21] (fun _ wr => ∃ u, HiI f 1 c t u ∧ RectAt wr w.heap.size u c t c ∧ RectAt wr (w.heap.size + 1) 0 0 0 0 ∧ Below w.heap.size w wr) (fun _ wr => (41 - cellI wr w.heap.size 0).toNat)
  case atStart => exact ⟨t + 1, HH0.out, by unfold RectAt; simp [go_sem], by unfold RectAt; simp [go_sem], by (repeat (first | (with_reducible exact Below.refl _ _) | (with_reducible refine Ext.drewN ?_ _) | (with_reducible refine Below.drew ?_) | (with_reducible refine Ext.alloc ?_ _) | (with_reducible refine Ext.setCell ?_ (by simp; try omega) _) | (with_reducible refine Ext.trans ?_ (by assumption)) | (with_reducible assumption) | exact Below.refl _ _))⟩
  case round =>
    obtain ⟨u, hu, ⟨a0, a1, a2, a3, f0, f1, f2, f3⟩, hb, hW⟩ := hrel
    have HU := Lib.hid hu
    obtain ⟨u1, u2, -⟩ := hu
    have HBr := Lib.hid (HB.out.below hW)
    have hsz := hb.lt
    have z0 : w.heap.size < wr.heap.size := by omega
    cases hc : gS f 1 c u
    · have HC := Lib.hid hc
      have hc' : sB f 1 (u + 1) c = false := by show gS f 1 c (u + 1 - 1) = _; rw [Int.add_sub_cancel]; exact hc
      go_wp2_with (go_at_call 96; refine (his _ _ _ HBr.out (by omega) (by omega)).mono ?_; rintro e w1 ⟨rfl, rfl⟩; rw [hc'])
      go_loopw [41] (fun _ wr => ∃ v, LoI f 1 c t v ∧ RectAt wr w.heap.size u c v c ∧ RectAt wr (w.heap.size + 1) 0 0 0 0 ∧ Below w.heap.size w wr) (fun _ wr => (41 + cellI wr w.heap.size 2).toNat)
      case atStart => exact ⟨t, HL0.out, ⟨by assumption, by assumption, by assumption, by assumption, by assumption, by assumption, by assumption, by assumption⟩, hb, hW⟩
      case round =>
        rename World => wq
        obtain ⟨v, hv, ⟨b0, b1, b2, b3, k0, k1, k2, k3⟩, hb', hW'⟩ := hrel
        have HV := Lib.hid hv
        obtain ⟨v1, v2, -⟩ := hv
        have HBq := Lib.hid (HB.out.below hW')
        have hsz' := hb'.lt
        have z1 : w.heap.size < wq.heap.size := by omega
        cases hk : gS f 1 c (v - 1)
        · have hk' : sB f 1 v c = false := hk
          have HK := Lib.hid hk
          have HR9 := Lib.hid hb'
          obtain ⟨i0, i1, i2, i3, j0, j1, j2, j3⟩ := hb'
          go_wp2_with (go_at_call 96; refine (his _ _ _ HBq.out (by omega) (by omega)).mono ?_; rintro e w1 ⟨rfl, rfl⟩; rw [hk'])
          obtain ⟨e0, e1, e2, e3, -⟩ := RectAt.set HR9.out (mkE 1 c v u).a (mkE 1 c v u).b (mkE 1 c v u).c (mkE 1 c v u).d
          simp only [mkE] at e0 e1 e2 e3
          refine bodyPost_ret (v := eV (mkE 1 c v u)) (by simp [*, eV, mkE, results, Tryz.results98, go_sem]) rfl ⟨⟨_, _, MaxI.of HV.out HU.out HK.out HC.out, by first | exact u2 | exact v2, by first | exact u1 | exact v1, rfl⟩, ?_⟩
          (repeat (first | (with_reducible exact Below.refl _ _) | (with_reducible refine Ext.drewN ?_ _) | (with_reducible refine Below.drew ?_) | (with_reducible refine Ext.alloc ?_ _) | (with_reducible refine Ext.setCell ?_ (by simp; try omega) _) | (with_reducible refine Ext.trans ?_ (by assumption)) | (with_reducible assumption) | exact Below.refl _ _))
        · have hk' : sB f 1 v c = true := hk
          have HK := Lib.hid hk
          have hk2 := gS_t hk
          go_wp2_with (go_at_call 96; refine (his _ _ _ HBq.out (by omega) (by omega)).mono ?_; rintro e w1 ⟨rfl, rfl⟩; rw [hk'])
          go_roundw
          case rel => exact ⟨v - 1, HV.out.next HK.out, by unfold RectAt; (simp [*, go_sem]) <;> omega, by unfold RectAt at hb' ⊢; simp [*, go_sem], by (repeat (first | (with_reducible exact Below.refl _ _) | (with_reducible refine Ext.drewN ?_ _) | (with_reducible refine Below.drew ?_) | (with_reducible refine Ext.alloc ?_ _) | (with_reducible refine Ext.setCell ?_ (by simp; try omega) _) | (with_reducible refine Ext.trans ?_ (by assumption)) | (with_reducible assumption) | exact Below.refl _ _))⟩
          case measure => simp [cellI, *, go_sem]; omega
    · have hc' : sB f 1 (u + 1) c = true := by show gS f 1 c (u + 1 - 1) = _; rw [Int.add_sub_cancel]; exact hc
      have HC := Lib.hid hc
      have hk1 := gS_t hc
      go_wp2_with (go_at_call 96; refine (his _ _ _ HBr.out (by omega) (by omega)).mono ?_; rintro e w1 ⟨rfl, rfl⟩; rw [hc'])
      go_roundw
      case rel => exact ⟨u + 1, HU.out.next HC.out, by unfold RectAt; simp [*, go_sem], by unfold RectAt at hb ⊢; simp [*, go_sem], by (repeat (first | (with_reducible exact Below.refl _ _) | (with_reducible refine Ext.drewN ?_ _) | (with_reducible refine Below.drew ?_) | (with_reducible refine Ext.alloc ?_ _) | (with_reducible refine Ext.setCell ?_ (by simp; try omega) _) | (with_reducible refine Ext.trans ?_ (by assumption)) | (with_reducible assumption) | exact Below.refl _ _))⟩
      case measure => simp [cellI, *, go_sem]; omega

set_option maxHeartbeats 4000000 in
theorem l06Whole_2 (g c' : Nat) (f : Nat → Bool) (c t : Int) (w : World) (hB : BitsIs w g f) (hg : gS f 2 c t = true) :
    Calls Tryz.prog 98 #[.slice (some ⟨g, 0, none⟩) 6400 c', eV (mkE 2 c t (t + 1))] w fun e w' => (∃ lo hi, MaxI (gS f 2 c) lo hi ∧ lo ≤ t ∧ t < hi ∧ e = .returned (eV (mkE 2 c lo hi))) ∧ Below w.heap.size w w' := by
  obtain ⟨⟨t1, t2⟩, c1, c2⟩ := gS_t hg
  have hl0 : LoI f 2 c t t := ⟨t1, Int.le_refl _, fun s h1 h2 => by obtain rfl : s = t := by omega
                                                                    exact hg⟩
  have hh0 : HiI f 2 c t (t + 1) := ⟨by omega, by omega, fun s h1 h2 => by obtain rfl : s = t := by omega
                                                                           exact hg⟩
  have HL0 := Lib.hid hl0
  have HH0 := Lib.hid hh0
  have HB := Lib.hid hB
  have d1 : t - (t + 1) = -1 := by omega
  have d2 : t + 1 - t = 1 := by omega
  clear hB hg hl0 hh0
  have his := fun (x y : Int) (w' : World) (hB' : BitsIs w' g f) (hx : -1000 ≤ x ∧ x ≤ 1000) (hy : -1000 ≤ y ∧ y ≤ 1000) => l06Is_any g c' f 2 (by decide) x y w' hB' hx hy
  simp only [dX, dY] at his
  dsimp only [eV, mkE]
  go_enter Tryz.func98, Tryz.ntmps98
  go_wp2_with fail
  go_loopw [21] (fun _ wr => ∃ u, LoI f 2 c t u ∧ RectAt wr w.heap.size c u c (t + 1) ∧ RectAt wr (w.heap.size + 1) 0 0 0 0 ∧ Below w.heap.size w wr) (fun _ wr => (41 + cellI wr w.heap.size 1).toNat)
  case atStart => exact ⟨t, HL0.out, by unfold RectAt; simp [go_sem], by unfold RectAt; simp [go_sem], by (repeat (first | (with_reducible exact Below.refl _ _) | (with_reducible refine Ext.drewN ?_ _) | (with_reducible refine Below.drew ?_) | (with_reducible refine Ext.alloc ?_ _) | (with_reducible refine Ext.setCell ?_ (by simp; try omega) _) | (with_reducible refine Ext.trans ?_ (by assumption)) | (with_reducible assumption) | exact Below.refl _ _))⟩
  case round =>
    obtain ⟨u, hu, ⟨a0, a1, a2, a3, f0, f1, f2, f3⟩, hb, hW⟩ := hrel
    have HU := Lib.hid hu
    obtain ⟨u1, u2, -⟩ := hu
    have HBr := Lib.hid (HB.out.below hW)
    have hsz := hb.lt
    have z0 : w.heap.size < wr.heap.size := by omega
    cases hc : gS f 2 c (u - 1)
    · have HC := Lib.hid hc
      have hc' : sB f 2 c (u - 1) = false := hc
      go_wp2_with (go_at_call 96; refine (his _ _ _ HBr.out (by omega) (by omega)).mono ?_; rintro e w1 ⟨rfl, rfl⟩; rw [hc'])
      go_loopw [41] (fun _ wr => ∃ v, HiI f 2 c t v ∧ RectAt wr w.heap.size c u c v ∧ RectAt wr (w.heap.size + 1) 0 0 0 0 ∧ Below w.heap.size w wr) (fun _ wr => (41 - cellI wr w.heap.size 3).toNat)
      case atStart => exact ⟨t + 1, HH0.out, ⟨by assumption, by assumption, by assumption, by assumption, by assumption, by assumption, by assumption, by assumption⟩, hb, hW⟩
      case round =>
        rename World => wq
        obtain ⟨v, hv, ⟨b0, b1, b2, b3, k0, k1, k2, k3⟩, hb', hW'⟩ := hrel
        have HV := Lib.hid hv
        obtain ⟨v1, v2, -⟩ := hv
        have HBq := Lib.hid (HB.out.below hW')
        have hsz' := hb'.lt
        have z1 : w.heap.size < wq.heap.size := by omega
        cases hk : gS f 2 c v
        · have hk' : sB f 2 c v = false := hk
          have HK := Lib.hid hk
          have HR9 := Lib.hid hb'
          obtain ⟨i0, i1, i2, i3, j0, j1, j2, j3⟩ := hb'
          go_wp2_with (go_at_call 96; refine (his _ _ _ HBq.out (by omega) (by omega)).mono ?_; rintro e w1 ⟨rfl, rfl⟩; rw [hk'])
          obtain ⟨e0, e1, e2, e3, -⟩ := RectAt.set HR9.out (mkE 2 c u v).a (mkE 2 c u v).b (mkE 2 c u v).c (mkE 2 c u v).d
          simp only [mkE] at e0 e1 e2 e3
          refine bodyPost_ret (v := eV (mkE 2 c u v)) (by simp [*, eV, mkE, results, Tryz.results98, go_sem]) rfl ⟨⟨_, _, MaxI.of HU.out HV.out HC.out HK.out, by first | exact u2 | exact v2, by first | exact u1 | exact v1, rfl⟩, ?_⟩
          (repeat (first | (with_reducible exact Below.refl _ _) | (with_reducible refine Ext.drewN ?_ _) | (with_reducible refine Below.drew ?_) | (with_reducible refine Ext.alloc ?_ _) | (with_reducible refine Ext.setCell ?_ (by simp; try omega) _) | (with_reducible refine Ext.trans ?_ (by assumption)) | (with_reducible assumption) | exact Below.refl _ _))
        · have hk' : sB f 2 c v = true := hk
          have HK := Lib.hid hk
          have hk2 := gS_t hk
          go_wp2_with (go_at_call 96; refine (his _ _ _ HBq.out (by omega) (by omega)).mono ?_; rintro e w1 ⟨rfl, rfl⟩; rw [hk'])
          go_roundw
          case rel => exact ⟨v + 1, HV.out.next HK.out, by unfold RectAt; (simp [*, go_sem]) <;> omega, by unfold RectAt at hb' ⊢; simp [*, go_sem], by (repeat (first | (with_reducible exact Below.refl _ _) | (with_reducible refine Ext.drewN ?_ _) | (with_reducible refine Below.drew ?_) | (with_reducible refine Ext.alloc ?_ _) | (with_reducible refine Ext.setCell ?_ (by simp; try omega) _) | (with_reducible refine Ext.trans ?_ (by assumption)) | (with_reducible assumption) | exact Below.refl _ _))⟩
          case measure => simp [cellI, *, go_sem]; omega
    · have hc' : sB f 2 c (u - 1) = true := hc
      have HC := Lib.hid hc
      have hk1 := gS_t hc
      go_wp2_with (go_at_call 96; refine (his _ _ _ HBr.out (by omega) (by omega)).mono ?_; rintro e w1 ⟨rfl, rfl⟩; rw [hc'])
      go_roundw
      case rel => exact ⟨u - 1, HU.out.next HC.out, by unfold RectAt; simp [*, go_sem], by unfold RectAt at hb ⊢; simp [*, go_sem], by (repeat (first | (with_reducible exact Below.refl _ _) | (with_reducible refine Ext.drewN ?_ _) | (with_reducible refine Below.drew ?_) | (with_reducible refine Ext.alloc ?_ _) | (with_reducible refine Ext.setCell ?_ (by simp; try omega) _) | (with_reducible refine Ext.trans ?_ (by assumption)) | (with_reducible assumption) | exact Below.refl _ _))⟩
      case measure => simp [cellI, *, go_sem]; omega

set_option maxHeartbeats 4000000 in
theorem l06Whole_3 (g c' : Nat) (f : Nat → Bool) (c t : Int) (w : World) (hB : BitsIs w g f) (hg : gS f 3 c t = true) :
    Calls Tryz.prog 98 #[.slice (some ⟨g, 0, none⟩) 6400 c', eV (mkE 3 c t (t + 1))] w fun e w' => (∃ lo hi, MaxI (gS f 3 c) lo hi ∧ lo ≤ t ∧ t < hi ∧ e = .returned (eV (mkE 3 c lo hi))) ∧ Below w.heap.size w w' := by
  obtain ⟨⟨t1, t2⟩, c1, c2⟩ := gS_t hg
  have hl0 : LoI f 3 c t t := ⟨t1, Int.le_refl _, fun s h1 h2 => by obtain rfl : s = t := by omega
                                                                    exact hg⟩
  have hh0 : HiI f 3 c t (t + 1) := ⟨by omega, by omega, fun s h1 h2 => by obtain rfl : s = t := by omega
                                                                           exact hg⟩
  have HL0 := Lib.hid hl0
  have HH0 := Lib.hid hh0
  have HB := Lib.hid hB
  have d1 : t - (t + 1) = -1 := by omega
  have d2 : t + 1 - t = 1 := by omega
  clear hB hg hl0 hh0
  have his := fun (x y : Int) (w' : World) (hB' : BitsIs w' g f) (hx : -1000 ≤ x ∧ x ≤ 1000) (hy : -1000 ≤ y ∧ y ≤ 1000) => l06Is_any g c' f 3 (by decide) x y w' hB' hx hy
  simp only [dX, dY] at his
  dsimp only [eV, mkE]
  go_enter Tryz.func98, Tryz.ntmps98
  go_wp2_with fail
  go_loopw [21] (fun _ wr => ∃ u, HiI f 3 c t u ∧ RectAt wr w.heap.size c u c t ∧ RectAt wr (w.heap.size + 1) 0 0 0 0 ∧ Below w.heap.size w wr) (fun _ wr => (41 - cellI wr w.heap.size 1).toNat)
  case atStart => exact ⟨t + 1, HH0.out, by unfold RectAt; simp [go_sem], by unfold RectAt; simp [go_sem], by (repeat (first | (with_reducible exact Below.refl _ _) | (with_reducible refine Ext.drewN ?_ _) | (with_reducible refine Below.drew ?_) | (with_reducible refine Ext.alloc ?_ _) | (with_reducible refine Ext.setCell ?_ (by simp; try omega) _) | (with_reducible refine Ext.trans ?_ (by assumption)) | (with_reducible assumption) | exact Below.refl _ _))⟩
  case round =>
    obtain ⟨u, hu, ⟨a0, a1, a2, a3, f0, f1, f2, f3⟩, hb, hW⟩ := hrel
    have HU := Lib.hid hu
    obtain ⟨u1, u2, -⟩ := hu
    have HBr := Lib.hid (HB.out.below hW)
    have hsz := hb.lt
    have z0 : w.heap.size < wr.heap.size := by omega
    cases hc : gS f 3 c u
    · have HC := Lib.hid hc
      have hc' : sB f 3 c (u + 1) = false := by show gS f 3 c (u + 1 - 1) = _; rw [Int.add_sub_cancel]; exact hc
      go_wp2_with (go_at_call 96; refine (his _ _ _ HBr.out (by omega) (by omega)).mono ?_; rintro e w1 ⟨rfl, rfl⟩; rw [hc'])
      go_loopw [41] (fun _ wr => ∃ v, LoI f 3 c t v ∧ RectAt wr w.heap.size c u c v ∧ RectAt wr (w.heap.size + 1) 0 0 0 0 ∧ Below w.heap.size w wr) (fun _ wr => (41 + cellI wr w.heap.size 3).toNat)
      case atStart => exact ⟨t, HL0.out, ⟨by assumption, by assumption, by assumption, by assumption, by assumption, by assumption, by assumption, by assumption⟩, hb, hW⟩
      case round =>
        rename World => wq
        obtain ⟨v, hv, ⟨b0, b1, b2, b3, k0, k1, k2, k3⟩, hb', hW'⟩ := hrel
        have HV := Lib.hid hv
        obtain ⟨v1, v2, -⟩ := hv
        have HBq := Lib.hid (HB.out.below hW')
        have hsz' := hb'.lt
        have z1 : w.heap.size < wq.heap.size := by omega
        cases hk : gS f 3 c (v - 1)
        · have hk' : sB f 3 c v = false := hk
          have HK := Lib.hid hk
          have HR9 := Lib.hid hb'
          obtain ⟨i0, i1, i2, i3, j0, j1, j2, j3⟩ := hb'
          go_wp2_with (go_at_call 96; refine (his _ _ _ HBq.out (by omega) (by omega)).mono ?_; rintro e w1 ⟨rfl, rfl⟩; rw [hk'])
          obtain ⟨e0, e1, e2, e3, -⟩ := RectAt.set HR9.out (mkE 3 c v u).a (mkE 3 c v u).b (mkE 3 c v u).c (mkE 3 c v u).d
          simp only [mkE] at e0 e1 e2 e3
          refine bodyPost_ret (v := eV (mkE 3 c v u)) (by simp [*, eV, mkE, results, Tryz.results98, go_sem]) rfl ⟨⟨_, _, MaxI.of HV.out HU.out HK.out HC.out, by first | exact u2 | exact v2, by first | exact u1 | exact v1, rfl⟩, ?_⟩
          (repeat (first | (with_reducible exact Below.refl _ _) | (with_reducible refine Ext.drewN ?_ _) | (with_reducible refine Below.drew ?_) | (with_reducible refine Ext.alloc ?_ _) | (with_reducible refine Ext.setCell ?_ (by simp; try omega) _) | (with_reducible refine Ext.trans ?_ (by assumption)) | (with_reducible assumption) | exact Below.refl _ _))
        · have hk' : sB f 3 c v = true := hk
          have HK := Lib.hid hk
          have hk2 := gS_t hk
          go_wp2_with (go_at_call 96; refine (his _ _ _ HBq.out (by omega) (by omega)).mono ?_; rintro e w1 ⟨rfl, rfl⟩; rw [hk'])
          go_roundw
          case rel => exact ⟨v - 1, HV.out.next HK.out, by unfold RectAt; (simp [*, go_sem]) <;> omega, by unfold RectAt at hb' ⊢; simp [*, go_sem], by (repeat (first | (with_reducible exact Below.refl _ _) | (with_reducible refine Ext.drewN ?_ _) | (with_reducible refine Below.drew ?_) | (with_reducible refine Ext.alloc ?_ _) | (with_reducible refine Ext.setCell ?_ (by simp; try omega) _) | (with_reducible refine Ext.trans ?_ (by assumption)) | (with_reducible assumption) | exact Below.refl _ _))⟩
          case measure => simp [cellI, *, go_sem]; omega
    · have hc' : sB f 3 c (u + 1) = true := by show gS f 3 c (u + 1 - 1) = _; rw [Int.add_sub_cancel]; exact hc
      have HC := Lib.hid hc
      have hk1 := gS_t hc
      go_wp2_with (go_at_call 96; refine (his _ _ _ HBr.out (by omega) (by omega)).mono ?_; rintro e w1 ⟨rfl, rfl⟩; rw [hc'])
      go_roundw
      case rel => exact ⟨u + 1, HU.out.next HC.out, by unfold RectAt; simp [*, go_sem], by unfold RectAt at hb ⊢; simp [*, go_sem], by (repeat (first | (with_reducible exact Below.refl _ _) | (with_reducible refine Ext.drewN ?_ _) | (with_reducible refine Below.drew ?_) | (with_reducible refine Ext.alloc ?_ _) | (with_reducible refine Ext.setCell ?_ (by simp; try omega) _) | (with_reducible refine Ext.trans ?_ (by assumption)) | (with_reducible assumption) | exact Below.refl _ _))⟩
      case measure => simp [cellI, *, go_sem]; omega

theorem l06Whole_any (g c' : Nat) (f : Nat → Bool) (o : Nat) (ho : o < 4) (c t : Int) (w : World) (hB : BitsIs w g f) (hg : gS f o c t = true) :
    Calls Tryz.prog 98 #[.slice (some ⟨g, 0, none⟩) 6400 c', eV (mkE o c t (t + 1))] w fun e w' => (∃ lo hi, MaxI (gS f o c) lo hi ∧ lo ≤ t ∧ t < hi ∧ e = .returned (eV (mkE o c lo hi))) ∧ Below w.heap.size w w' := by
  rcases o4 ho with rfl | rfl | rfl | rfl
  · exact l06Whole_0 g c' f c t w hB hg
  · exact l06Whole_1 g c' f c t w hB hg
  · exact l06Whole_2 g c' f c t w hB hg
  · exact l06Whole_3 g c' f c t w hB hg
end Go.Proofs.YtfbalpkjcfdakaaGreatDoor

namespace Go.Proofs.YtfbalpkjcfdakaaGreatDoor
open Go.RowKit
set_option linter.unusedVariables false
set_option linter.unusedSimpArgs false
attribute [local go_sem ↓] Go.wp_at_zero Go.wp_at_succ

theorem eqEc (a b c d p q r s : Int) (w : World) : (Op.equalIn 10000 55 (.agg #[.int .i64 a, .int .i64 b, .int .i64 c, .int .i64 d]) (.agg #[.int .i64 p, .int .i64 q, .int .i64 r, .int .i64 s])).run Tryz.prog w = .ok (eqRB a b c d p q r s) w := by
  have hq : ∀ (a b : Int) (w : World), (Op.equalIn 9999 2 (.int .i64 a) (.int .i64 b)).run Tryz.prog w = .ok (a == b) w := fun a b w => run_equalIn_int w 9998 _ _ .i64 a b Tryz.underlying2
  have hs : Tryz.prog.stoodInHeld 55 = false := by kernel_rfl
  have hu : Tryz.prog.underlying 55 = some (.struct (Tryz.prog.fieldsOf 55)) := by kernel_rfl
  rw [run_equalIn_agg w 9999 _ _ _ hu hs]
  have hp : ∀ (x0 x1 x2 x3 : Int) (w : World), (part 2 #[.int .i64 x0, .int .i64 x1, .int .i64 x2, .int .i64 x3] 0).run Tryz.prog w = .ok (.int .i64 x0) w ∧ (part 2 #[.int .i64 x0, .int .i64 x1, .int .i64 x2, .int .i64 x3] 1).run Tryz.prog w = .ok (.int .i64 x1) w ∧ (part 2 #[.int .i64 x0, .int .i64 x1, .int .i64 x2, .int .i64 x3] 2).run Tryz.prog w = .ok (.int .i64 x2) w ∧ (part 2 #[.int .i64 x0, .int .i64 x1, .int .i64 x2, .int .i64 x3] 3).run Tryz.prog w = .ok (.int .i64 x3) w :=
    fun _ _ _ _ _ => ⟨by kernel_rfl, by kernel_rfl, by kernel_rfl, by kernel_rfl⟩
  have hf : (Tryz.prog.fieldsOf 55).toList.map (fun f => (f.name, f.type, f.offset)) = [("X0", 2, 0), ("Y0", 2, 1), ("X1", 2, 2), ("Y1", 2, 3)] := by kernel_rfl
  generalize (Tryz.prog.fieldsOf 55).toList = fs at hf
  rcases fs with _ | ⟨f0, _ | ⟨f1, _ | ⟨f2, _ | ⟨f3, _ | ⟨f4, r⟩⟩⟩⟩⟩
  · simp at hf
  · simp at hf
  · simp at hf
  · simp at hf
  · simp only [List.map_cons, List.map_nil, List.cons.injEq, Prod.mk.injEq, and_true] at hf
    obtain ⟨⟨n0, t0, o0⟩, ⟨n1, t1, o1⟩, ⟨n2, t2, o2⟩, n3, t3, o3⟩ := hf
    simp only [Op.eqFields, n0, t0, o0, n1, t1, o1, n2, t2, o2, n3, t3, o3, eqRB]
    simp only [ne_eq, String.reduceEq, not_false_eq_true, if_true, Sem.run_bind, (hp _ _ _ _ _).1, (hp _ _ _ _ _).2.1, (hp _ _ _ _ _).2.2.1, (hp _ _ _ _ _).2.2.2, Result.andThen_ok, hq, Sem.run_ite, Sem.run_pure]
    cases h0 : a == p <;> cases h1 : b == q <;> cases h2 : c == r <;> cases h3 : d == s <;> simp
  · simp at hf
theorem eqRB_iff (e g : R4) : eqRB e.a e.b e.c e.d g.a g.b g.c g.d = decide (e = g) := by
  rw [Bool.eq_iff_iff, decide_eq_true_eq]
  unfold eqRB
  simp only [Bool.and_eq_true, beq_iff_eq]
  exact ⟨fun h => R4_ext h.1 h.2.1 h.2.2.1 h.2.2.2, fun h => by subst h; exact ⟨rfl, rfl, rfl, rfl⟩⟩

theorem infoE : (Tryz.prog.info? 55).map (fun i => (i.zero, i.size, i.bytes)) = (Tryz.prog.info? 65).map (fun i => (i.zero, i.size, i.bytes)) := by kernel_rfl
theorem erec_own {w : World} {B g n cap : Nat} {l : List R4} (h : w.ownsRow B 55 4 (.slice (some ⟨g, 0, none⟩) n cap) n (recCells l)) : RecIs B w g l := by
  have hl := h.lt g rfl
  refine ⟨hl.1, hl.2, fun i r hr => ?_⟩
  obtain ⟨h0, h1, h2, h3⟩ := recCells_at l i r hr
  have c0 := h.cells (g := g) rfl _ _ h0
  have c1 := h.cells (g := g) rfl _ _ h1
  have c2 := h.cells (g := g) rfl _ _ h2
  have c3 := h.cells (g := g) rfl _ _ h3
  rw [addG] at c0 c1 c2 c3
  exact ⟨c0, c1, c2, c3⟩
theorem erec_next {W : World} {B : Nat} {v : Value} {n : Nat} {l : List R4} {r : R4} (hn : n = l.length) (h : W.ownsRow B 55 4 v (n + 1) (recCells l ++ r4cells r)) :
    ∃ g cap, v = .slice (some ⟨g, 0, none⟩) (l ++ [r]).length cap ∧ W.ownsRow B 55 4 (.slice (some ⟨g, 0, none⟩) (l ++ [r]).length cap) (l ++ [r]).length (recCells (l ++ [r])) := by
  subst hn
  have e : (l ++ [r]).length = l.length + 1 := by simp
  rw [e, recCells_snoc]
  rcases h.2 with ⟨_, h0⟩ | ⟨g, cap, cur, rfl, _⟩
  · omega
  · exact ⟨g, cap, rfl, h⟩
theorem RecIs.extE {B : Nat} {w w' : World} {h : Nat} {l : List R4} (hR : RecIs B w h l) (hb : Below w.heap.size w w') : RecIs B w' h l :=
  ⟨hR.1, Nat.lt_of_lt_of_le hR.2.1 hb.size, fun i r hr => by
    obtain ⟨c0, c1, c2, c3⟩ := hR.2.2 i r hr
    exact ⟨(hb.cell (p := ⟨h, i * 4, none⟩) hR.2.1).trans c0, (hb.cell (p := ⟨h, i * 4 + 1, none⟩) hR.2.1).trans c1, (hb.cell (p := ⟨h, i * 4 + 2, none⟩) hR.2.1).trans c2, (hb.cell (p := ⟨h, i * 4 + 3, none⟩) hR.2.1).trans c3⟩⟩

theorem erec_cells {B h : Nat} {w : World} {l : List R4} (hR : RecIs B w h l) : ∀ j u, (recCells l)[j]? = some u → w.cell? ((⟨h, 0, none⟩ : Addr).add j) = some u := fun j u hj => by
  have hjl : j < l.length * 4 := by have := (List.getElem?_eq_some_iff.1 hj).1; rwa [recCells_len] at this
  obtain ⟨r, hr⟩ : ∃ r, l[j / 4]? = some r := ⟨_, List.getElem?_eq_getElem (by omega)⟩
  obtain ⟨c0, c1, c2, c3⟩ := hR.2.2 (j / 4) r hr
  obtain ⟨r0, r1, r2, r3⟩ := recCells_at l (j / 4) r hr
  rw [addG]
  have e : j = j / 4 * 4 ∨ j = j / 4 * 4 + 1 ∨ j = j / 4 * 4 + 2 ∨ j = j / 4 * 4 + 3 := by omega
  rcases e with e | e | e | e
  · rw [e] at hj ⊢; rw [r0] at hj; cases hj; exact c0
  · rw [e] at hj ⊢; rw [r1] at hj; cases hj; exact c1
  · rw [e] at hj ⊢; rw [r2] at hj; cases hj; exact c2
  · rw [e] at hj ⊢; rw [r3] at hj; cases hj; exact c3
theorem erec_cellsT {B h i : Nat} {w : World} {l : List R4} (hR : RecIs B w h l) (hi : i ≤ l.length) : ∀ j u, (recCells (l.take i))[j]? = some u → w.cell? ((⟨h, 0, none⟩ : Addr).add j) = some u := fun j u hj => by
  refine erec_cells hR j u ?_
  have e : recCells l = recCells (l.take i) ++ recCells (l.drop i) := by unfold recCells; rw [← List.flatMap_append, List.take_append_drop]
  rw [e, List.getElem?_append_left (List.getElem?_eq_some_iff.1 hj).1]
  exact hj
theorem erec_cellsD {B h i : Nat} {w : World} {l : List R4} (hR : RecIs B w h l) (hi : i ≤ l.length) : ∀ j u, (recCells (l.drop i))[j]? = some u → w.cell? ((⟨h, i * 4, none⟩ : Addr).add j) = some u := fun j u hj => by
  have h1 := erec_cells hR (i * 4 + j) u (by
    have e : recCells l = recCells (l.take i) ++ recCells (l.drop i) := by unfold recCells; rw [← List.flatMap_append, List.take_append_drop]
    have el : (recCells (l.take i)).length = i * 4 := by rw [recCells_len, List.length_take]; omega
    rw [e, List.getElem?_append_right (by omega), el, Nat.add_sub_cancel_left]
    exact hj)
  rw [addG] at h1
  have e2 : (⟨h, i * 4, none⟩ : Addr).add j = ⟨h, i * 4 + j, none⟩ := by
    cases j <;> rfl
  rw [e2]
  exact h1
theorem erec_one (l : List R4) : ∀ u ∈ recCells l, u.oneCell' = true := fun u hu => by
  unfold recCells at hu
  obtain ⟨r, hr, hu⟩ := List.mem_flatMap.1 hu
  unfold r4cells at hu
  simp at hu
  rcases hu with rfl | rfl | rfl | rfl <;> rfl
theorem e1_news {w1 : World} (e : R4) : ∀ j u, (r4cells e)[j]? = some u → (w1.alloc (.cells #[.int .i64 e.a, .int .i64 e.b, .int .i64 e.c, .int .i64 e.d] 55)).cell? ((⟨w1.heap.size, 0, none⟩ : Addr).add j) = some u := by
  intro j u hj
  unfold r4cells at hj
  match j, hj with
  | 0, hj => simp at hj; subst hj; rw [addG]; simp [go_sem]
  | 1, hj => simp at hj; subst hj; rw [addG]; simp [go_sem]
  | 2, hj => simp at hj; subst hj; rw [addG]; simp [go_sem]
  | 3, hj => simp at hj; subst hj; rw [addG]; simp [go_sem]
  | (k + 4), hj => simp at hj
theorem eown_some {w : World} {B n : Nat} {v : Value} {l : List R4} (hn : n = l.length) (h : w.ownsRow B 55 4 v n (recCells l)) (hv : v ≠ .slice none 0 0) : ∃ h' c, v = .slice (some ⟨h', 0, none⟩) l.length c ∧ l.length ≤ c ∧ w.ownsRow B 55 4 (.slice (some ⟨h', 0, none⟩) l.length c) l.length (recCells l) := by
  subst hn
  rcases h.2 with ⟨rfl, _⟩ | ⟨g, cap, cur, rfl, _, _, h3, _⟩
  · exact absurd rfl hv
  · exact ⟨g, cap, rfl, h3, h⟩
theorem eown_n {w : World} {B n : Nat} {v : Value} {xs : List Value} (h : w.ownsRow B 55 4 v n xs) (hv : v ≠ .slice none 0 0) : ∃ h' c, v = .slice (some ⟨h', 0, none⟩) n c ∧ n ≤ c ∧ w.ownsRow B 55 4 (.slice (some ⟨h', 0, none⟩) n c) n xs := by
  rcases h.2 with ⟨rfl, _⟩ | ⟨g, cap, cur, rfl, _, _, h3, _⟩
  · exact absurd rfl hv
  · exact ⟨g, cap, rfl, h3, h⟩
theorem infoEd : (Tryz.prog.info? 55).map (fun i => (i.zero, i.size, i.bytes)) = some (some (.agg #[.int .i64 0, .int .i64 0, .int .i64 0, .int .i64 0]), 4, 32) := by kernel_rfl

set_option maxRecDepth 100000 in
set_option maxHeartbeats 4000000 in
theorem l06Put_any (h c : Nat) (L : List R4) (e : R4) (w : World) (hR : RecIs 0 w h L) (hl : L.length ≤ 100000) (hc : L.length ≤ c) (hs : L.Pairwise ltE) :
    Calls Tryz.prog 97 #[.slice (some ⟨h, 0, none⟩) L.length c, .agg #[.int .i64 e.a, .int .i64 e.b, .int .i64 e.c, .int .i64 e.d]] w fun r w' => (∃ L' h' c', r = .returned (.slice (some ⟨h', 0, none⟩) L'.length c') ∧ RecIs 0 w' h' L' ∧ L'.Pairwise ltE ∧ (∀ a, a ∈ L' ↔ a = e ∨ a ∈ L) ∧ L'.length ≤ L.length + 1 ∧ L'.length ≤ c') ∧ Below w.heap.size w w' := by
  have HR := Lib.hid hR
  have HS := Lib.hid hs
  have hlt := hR.2.1
  clear hR hs
  go_enter Tryz.func97, Tryz.ntmps97
  go_wp2_with fail
  go_loopw [5] (fun s5 wr => ∃ i : Nat, i ≤ L.length ∧ s5 = .int .i64 (i : Int) ∧ Hid (∀ j a, j < i → L[j]? = some a → ltE a e) ∧ Below w.heap.size w wr ∧ wr.cell? ⟨w.heap.size, 0, none⟩ = some (.int .i64 e.a) ∧ wr.cell? ⟨w.heap.size, 1, none⟩ = some (.int .i64 e.b) ∧ wr.cell? ⟨w.heap.size, 2, none⟩ = some (.int .i64 e.c) ∧ wr.cell? ⟨w.heap.size, 3, none⟩ = some (.int .i64 e.d)) (fun s5 _ => L.length - (intOf s5).toNat)
  case atStart => exact ⟨0, by omega, rfl, Lib.hid (fun j a h => absurd h (by omega)), by (repeat (first | (with_reducible exact Below.refl _ _) | (with_reducible refine Ext.drewN ?_ _) | (with_reducible refine Below.drew ?_) | (with_reducible refine Ext.alloc ?_ _) | (with_reducible refine Ext.setCell ?_ (by simp; try omega) _) | (with_reducible refine Ext.trans ?_ (by assumption)) | (with_reducible assumption) | exact Below.refl _ _)), by simp [go_sem], by simp [go_sem], by simp [go_sem], by simp [go_sem]⟩
  case round =>
    obtain ⟨i, hi, rfl, HJ, hW, b0, b1, b2, b3⟩ := hrel
    have hRw := HR.out.extE hW
    have hsz := hW.size
    by_cases hil : i < L.length
    · obtain ⟨a, ha⟩ : ∃ a, L[i]? = some a := ⟨_, List.getElem?_eq_getElem hil⟩
      obtain ⟨x0, x1, x2, x3⟩ := hRw.2.2 i a ha
      have q0 : (0 : Int) ≤ (i : Int) := by omega
      have q1 : (i : Int) < (L.length : Int) := by omega
      have HA := Lib.hid ha
      have HRW := Lib.hid hRw
      clear hRw ha
      have hlr : h < wr.heap.size := by omega
      have hbr : w.heap.size < wr.heap.size := World.block_lt_of_cell? wr ⟨w.heap.size, 0, none⟩ b0
      cases hlt' : decide (ltE a e) with
      | true =>
        have hle : ltE a e := of_decide_eq_true hlt'
        have HLE := Lib.hid hle
        clear hle
        have HLT := Lib.hid hlt'
        clear hlt'
        go_wp2_with fail
        go_region_held3 (fun w' => Below wr.heap.size wr w' ∧ w'.cell? ⟨h, i * 4, none⟩ = some (.int .i64 a.a) ∧ w'.cell? ⟨h, i * 4 + 1, none⟩ = some (.int .i64 a.b) ∧ w'.cell? ⟨h, i * 4 + 2, none⟩ = some (.int .i64 a.c) ∧ w'.cell? ⟨h, i * 4 + 3, none⟩ = some (.int .i64 a.d) ∧ w'.cell? ⟨w.heap.size, 0, none⟩ = some (.int .i64 e.a) ∧ w'.cell? ⟨w.heap.size, 1, none⟩ = some (.int .i64 e.b) ∧ w'.cell? ⟨w.heap.size, 2, none⟩ = some (.int .i64 e.c) ∧ w'.cell? ⟨w.heap.size, 3, none⟩ = some (.int .i64 e.d))
          (first | ((try dsimp only); go_split_ands; (repeat' (with_reducible refine And.intro ?_ ?_)) <;> first | ((repeat (with_reducible refine keepS ?_ (by simp; try omega) _)); (first | (with_reducible assumption) | (with_reducible exact keepC (by assumption) (by assumption)) | (with_reducible exact keepA (by assumption) _) | (with_reducible exact keepR (by assumption) (by omega) _))) | ((try simp only [World.size_alloc, World.size_setCell, World.size_drew]); omega) | (refine Mats.below hM ?_ hM.size; (repeat (first | (with_reducible exact Below.refl _ _) | (with_reducible refine Ext.drewN ?_ _) | (with_reducible refine Below.drew ?_) | (with_reducible refine Ext.alloc ?_ _) | (with_reducible refine Ext.setCell ?_ (by simp; try omega) _) | (with_reducible refine Ext.trans ?_ (by assumption)) | (with_reducible assumption) | exact Below.refl _ _)); done) | ((repeat (first | (with_reducible exact Below.refl _ _) | (with_reducible refine Ext.drewN ?_ _) | (with_reducible refine Below.drew ?_) | (with_reducible refine Ext.alloc ?_ _) | (with_reducible refine Ext.setCell ?_ (by simp; try omega) _) | (with_reducible refine Ext.trans ?_ (by assumption)) | (with_reducible assumption) | exact Below.refl _ _)); done) | (go_keep; done)))
          (first | (go_at_call 135; refine (l06Less_any a e _).mono ?_; rintro r v0 ⟨rfl, bv0⟩; rw [HLT.out]; obtain ⟨sv0, zv0, cv0, fv0⟩ := bcell bv0; (try simp only [World.size_alloc, World.size_setCell, World.size_drew] at sv0)))
        all_goals
          go_wp2_with fail
          go_roundw
          case rel => exact ⟨i + 1, by omega, by go_num, Lib.hid (fun j a' hj ha' => by
            by_cases e' : j = i
            · subst e'
              rw [HA.out] at ha'
              cases ha'
              exact HLE.out
            · exact HJ.out j a' (by omega) ha'), by (repeat (first | (with_reducible exact Below.refl _ _) | (with_reducible refine Ext.drewN ?_ _) | (with_reducible refine Below.drew ?_) | (with_reducible refine Ext.alloc ?_ _) | (with_reducible refine Ext.setCell ?_ (by simp; try omega) _) | (with_reducible refine Ext.trans ?_ (by assumption)) | (with_reducible assumption) | exact Below.refl _ _)), by first | assumption | (simp [*]; done), by first | assumption | (simp [*]; done), by first | assumption | (simp [*]; done), by first | assumption | (simp [*]; done)⟩
          case measure => simp [intOf]; omega
      | false =>
        have hne : ¬ ltE a e := of_decide_eq_false hlt'
        have HNE := Lib.hid hne
        clear hne
        have HLT := Lib.hid hlt'
        clear hlt'
        have hcmp := fun W : World => eqEc a.a a.b a.c a.d e.a e.b e.c e.d W
        rw [eqRB_iff] at hcmp
        obtain ⟨bq, hbq⟩ : ∃ bq, bq = decide (a = e) := ⟨_, rfl⟩
        rw [← hbq] at hcmp
        have HBQ := Lib.hid hbq
        clear hbq
        cases bq with
        | true =>
          go_wp2_with fail
          go_region_held3 (fun w' => Below wr.heap.size wr w' ∧ w'.cell? ⟨h, i * 4, none⟩ = some (.int .i64 a.a) ∧ w'.cell? ⟨h, i * 4 + 1, none⟩ = some (.int .i64 a.b) ∧ w'.cell? ⟨h, i * 4 + 2, none⟩ = some (.int .i64 a.c) ∧ w'.cell? ⟨h, i * 4 + 3, none⟩ = some (.int .i64 a.d) ∧ w'.cell? ⟨w.heap.size, 0, none⟩ = some (.int .i64 e.a) ∧ w'.cell? ⟨w.heap.size, 1, none⟩ = some (.int .i64 e.b) ∧ w'.cell? ⟨w.heap.size, 2, none⟩ = some (.int .i64 e.c) ∧ w'.cell? ⟨w.heap.size, 3, none⟩ = some (.int .i64 e.d))
            (first | ((try dsimp only); go_split_ands; (repeat' (with_reducible refine And.intro ?_ ?_)) <;> first | ((repeat (with_reducible refine keepS ?_ (by simp; try omega) _)); (first | (with_reducible assumption) | (with_reducible exact keepC (by assumption) (by assumption)) | (with_reducible exact keepA (by assumption) _) | (with_reducible exact keepR (by assumption) (by omega) _))) | ((try simp only [World.size_alloc, World.size_setCell, World.size_drew]); omega) | (refine Mats.below hM ?_ hM.size; (repeat (first | (with_reducible exact Below.refl _ _) | (with_reducible refine Ext.drewN ?_ _) | (with_reducible refine Below.drew ?_) | (with_reducible refine Ext.alloc ?_ _) | (with_reducible refine Ext.setCell ?_ (by simp; try omega) _) | (with_reducible refine Ext.trans ?_ (by assumption)) | (with_reducible assumption) | exact Below.refl _ _)); done) | ((repeat (first | (with_reducible exact Below.refl _ _) | (with_reducible refine Ext.drewN ?_ _) | (with_reducible refine Below.drew ?_) | (with_reducible refine Ext.alloc ?_ _) | (with_reducible refine Ext.setCell ?_ (by simp; try omega) _) | (with_reducible refine Ext.trans ?_ (by assumption)) | (with_reducible assumption) | exact Below.refl _ _)); done) | (go_keep; done)))
            (first | (go_at_call 135; refine (l06Less_any a e _).mono ?_; rintro r v0 ⟨rfl, bv0⟩; rw [HLT.out]; obtain ⟨sv0, zv0, cv0, fv0⟩ := bcell bv0; (try simp only [World.size_alloc, World.size_setCell, World.size_drew] at sv0)))
          all_goals
            clear x0 x1 x2 x3 b0 b1 b2 b3 bv0 sv0 zv0 cv0 fv0
            rename_i hHeld
            obtain ⟨E0, x0, x1, x2, x3, b0, b1, b2, b3⟩ := hHeld
            go_wp2_with fail
            go_region_held3 (fun w' => Below wr.heap.size wr w' ∧ w'.cell? ⟨h, i * 4, none⟩ = some (.int .i64 a.a) ∧ w'.cell? ⟨h, i * 4 + 1, none⟩ = some (.int .i64 a.b) ∧ w'.cell? ⟨h, i * 4 + 2, none⟩ = some (.int .i64 a.c) ∧ w'.cell? ⟨h, i * 4 + 3, none⟩ = some (.int .i64 a.d) ∧ w'.cell? ⟨w.heap.size, 0, none⟩ = some (.int .i64 e.a) ∧ w'.cell? ⟨w.heap.size, 1, none⟩ = some (.int .i64 e.b) ∧ w'.cell? ⟨w.heap.size, 2, none⟩ = some (.int .i64 e.c) ∧ w'.cell? ⟨w.heap.size, 3, none⟩ = some (.int .i64 e.d))
              (first | ((try dsimp only); go_split_ands; (repeat' (with_reducible refine And.intro ?_ ?_)) <;> first | ((repeat (with_reducible refine keepS ?_ (by simp; try omega) _)); (first | (with_reducible assumption) | (with_reducible exact keepC (by assumption) (by assumption)) | (with_reducible exact keepA (by assumption) _) | (with_reducible exact keepR (by assumption) (by omega) _))) | ((try simp only [World.size_alloc, World.size_setCell, World.size_drew]); omega) | (refine Mats.below hM ?_ hM.size; (repeat (first | (with_reducible exact Below.refl _ _) | (with_reducible refine Ext.drewN ?_ _) | (with_reducible refine Below.drew ?_) | (with_reducible refine Ext.alloc ?_ _) | (with_reducible refine Ext.setCell ?_ (by simp; try omega) _) | (with_reducible refine Ext.trans ?_ (by assumption)) | (with_reducible assumption) | exact Below.refl _ _)); done) | ((repeat (first | (with_reducible exact Below.refl _ _) | (with_reducible refine Ext.drewN ?_ _) | (with_reducible refine Below.drew ?_) | (with_reducible refine Ext.alloc ?_ _) | (with_reducible refine Ext.setCell ?_ (by simp; try omega) _) | (with_reducible refine Ext.trans ?_ (by assumption)) | (with_reducible assumption) | exact Below.refl _ _)); done) | (go_keep; done)))
              (fail)
            all_goals
              clear x0 x1 x2 x3 b0 b1 b2 b3 E0
              rename_i hHeld
              obtain ⟨E0, -, -, -, -, b0, b1, b2, b3⟩ := hHeld
              go_wp2_with fail
              go_ret
              have hea : a = e := of_decide_eq_true HBQ.out.symm
              exact ⟨⟨L, h, c, rfl, (HR.out.extE hW).extE E0, HS.out, fun x => ⟨fun hx => .inr hx, fun hx => hx.elim (fun ex => by rw [ex, ← hea]; exact List.mem_of_getElem? HA.out) id⟩, by omega, hc⟩, hW.trans (E0.mono hW.size)⟩
        | false =>
          go_wp2_with fail
          go_region_held3 (fun w' => Below wr.heap.size wr w' ∧ w'.cell? ⟨h, i * 4, none⟩ = some (.int .i64 a.a) ∧ w'.cell? ⟨h, i * 4 + 1, none⟩ = some (.int .i64 a.b) ∧ w'.cell? ⟨h, i * 4 + 2, none⟩ = some (.int .i64 a.c) ∧ w'.cell? ⟨h, i * 4 + 3, none⟩ = some (.int .i64 a.d) ∧ w'.cell? ⟨w.heap.size, 0, none⟩ = some (.int .i64 e.a) ∧ w'.cell? ⟨w.heap.size, 1, none⟩ = some (.int .i64 e.b) ∧ w'.cell? ⟨w.heap.size, 2, none⟩ = some (.int .i64 e.c) ∧ w'.cell? ⟨w.heap.size, 3, none⟩ = some (.int .i64 e.d))
            (first | ((try dsimp only); go_split_ands; (repeat' (with_reducible refine And.intro ?_ ?_)) <;> first | ((repeat (with_reducible refine keepS ?_ (by simp; try omega) _)); (first | (with_reducible assumption) | (with_reducible exact keepC (by assumption) (by assumption)) | (with_reducible exact keepA (by assumption) _) | (with_reducible exact keepR (by assumption) (by omega) _))) | ((try simp only [World.size_alloc, World.size_setCell, World.size_drew]); omega) | (refine Mats.below hM ?_ hM.size; (repeat (first | (with_reducible exact Below.refl _ _) | (with_reducible refine Ext.drewN ?_ _) | (with_reducible refine Below.drew ?_) | (with_reducible refine Ext.alloc ?_ _) | (with_reducible refine Ext.setCell ?_ (by simp; try omega) _) | (with_reducible refine Ext.trans ?_ (by assumption)) | (with_reducible assumption) | exact Below.refl _ _)); done) | ((repeat (first | (with_reducible exact Below.refl _ _) | (with_reducible refine Ext.drewN ?_ _) | (with_reducible refine Below.drew ?_) | (with_reducible refine Ext.alloc ?_ _) | (with_reducible refine Ext.setCell ?_ (by simp; try omega) _) | (with_reducible refine Ext.trans ?_ (by assumption)) | (with_reducible assumption) | exact Below.refl _ _)); done) | (go_keep; done)))
            (first | (go_at_call 135; refine (l06Less_any a e _).mono ?_; rintro r v0 ⟨rfl, bv0⟩; rw [HLT.out]; obtain ⟨sv0, zv0, cv0, fv0⟩ := bcell bv0; (try simp only [World.size_alloc, World.size_setCell, World.size_drew] at sv0)))
          all_goals
            clear x0 x1 x2 x3 b0 b1 b2 b3 bv0 sv0 zv0 cv0 fv0
            rename_i hHeld
            obtain ⟨E0, x0, x1, x2, x3, b0, b1, b2, b3⟩ := hHeld
            go_wp2_with fail
            go_region_held3 (fun w' => Below wr.heap.size wr w' ∧ w'.cell? ⟨h, i * 4, none⟩ = some (.int .i64 a.a) ∧ w'.cell? ⟨h, i * 4 + 1, none⟩ = some (.int .i64 a.b) ∧ w'.cell? ⟨h, i * 4 + 2, none⟩ = some (.int .i64 a.c) ∧ w'.cell? ⟨h, i * 4 + 3, none⟩ = some (.int .i64 a.d) ∧ w'.cell? ⟨w.heap.size, 0, none⟩ = some (.int .i64 e.a) ∧ w'.cell? ⟨w.heap.size, 1, none⟩ = some (.int .i64 e.b) ∧ w'.cell? ⟨w.heap.size, 2, none⟩ = some (.int .i64 e.c) ∧ w'.cell? ⟨w.heap.size, 3, none⟩ = some (.int .i64 e.d))
              (first | ((try dsimp only); go_split_ands; (repeat' (with_reducible refine And.intro ?_ ?_)) <;> first | ((repeat (with_reducible refine keepS ?_ (by simp; try omega) _)); (first | (with_reducible assumption) | (with_reducible exact keepC (by assumption) (by assumption)) | (with_reducible exact keepA (by assumption) _) | (with_reducible exact keepR (by assumption) (by omega) _))) | ((try simp only [World.size_alloc, World.size_setCell, World.size_drew]); omega) | (refine Mats.below hM ?_ hM.size; (repeat (first | (with_reducible exact Below.refl _ _) | (with_reducible refine Ext.drewN ?_ _) | (with_reducible refine Below.drew ?_) | (with_reducible refine Ext.alloc ?_ _) | (with_reducible refine Ext.setCell ?_ (by simp; try omega) _) | (with_reducible refine Ext.trans ?_ (by assumption)) | (with_reducible assumption) | exact Below.refl _ _)); done) | ((repeat (first | (with_reducible exact Below.refl _ _) | (with_reducible refine Ext.drewN ?_ _) | (with_reducible refine Below.drew ?_) | (with_reducible refine Ext.alloc ?_ _) | (with_reducible refine Ext.setCell ?_ (by simp; try omega) _) | (with_reducible refine Ext.trans ?_ (by assumption)) | (with_reducible assumption) | exact Below.refl _ _)); done) | (go_keep; done)))
              (fail)
            all_goals
              clear x0 x1 x2 x3 b0 b1 b2 b3 E0
              rename_i hHeld
              obtain ⟨E0, -, -, -, -, b0, b1, b2, b3⟩ := hHeld
              rename World => wy
              obtain ⟨wx, hwx⟩ : ∃ wx, wx = wy.drew := ⟨_, rfl⟩
              replace E0 : Below wr.heap.size wr wx := by rw [hwx]; first | exact E0 | exact E0.drew
              replace b0 : wx.cell? ⟨w.heap.size, 0, none⟩ = some (.int .i64 e.a) := by rw [hwx]; exact b0
              replace b1 : wx.cell? ⟨w.heap.size, 1, none⟩ = some (.int .i64 e.b) := by rw [hwx]; exact b1
              replace b2 : wx.cell? ⟨w.heap.size, 2, none⟩ = some (.int .i64 e.c) := by rw [hwx]; exact b2
              replace b3 : wx.cell? ⟨w.heap.size, 3, none⟩ = some (.int .i64 e.d) := by rw [hwx]; exact b3
              rw [← hwx]
              clear hwx
              have hbr0 : w.heap.size < wx.heap.size := World.block_lt_of_cell? wx ⟨w.heap.size, 0, none⟩ b0
              have hlr0 := E0.size
              have HRX := Lib.hid (RecIs.extE HRW.out E0)
              have B0 := Lib.hid b0
              have B1 := Lib.hid b1
              have B2 := Lib.hid b2
              have B3 := Lib.hid b3
              obtain ⟨i0, hin, hz0, hz1, hz2⟩ := info_parts infoEd
              have HPUT := Lib.hid (put_sorted (lt := ltE) (fun h1 h2 => ltE_trans h1 h2) (fun h1 h2 => ltE_tot h1 h2) HS.out e i (by omega) HJ.out (fun x hx => by rw [HA.out] at hx; cases hx; exact ⟨HNE.out, of_decide_eq_false HBQ.out.symm⟩))
              obtain ⟨wz, hwz⟩ : ∃ wz, wz = wx.alloc (.cells #[] 55) := ⟨_, rfl⟩
              have bz : Below wx.heap.size wx wz := by rw [hwz]; (repeat (first | (with_reducible exact Below.refl _ _) | (with_reducible refine Ext.drewN ?_ _) | (with_reducible refine Below.drew ?_) | (with_reducible refine Ext.alloc ?_ _) | (with_reducible refine Ext.setCell ?_ (by simp; try omega) _) | (with_reducible refine Ext.trans ?_ (by assumption)) | (with_reducible assumption) | exact Below.refl _ _))
              have sz : wz.heap.size = wx.heap.size + 1 := by rw [hwz]; simp
              have OZ : Hid (wz.ownsRow wx.heap.size 55 4 (.slice (some ⟨wx.heap.size, 0, none⟩) 0 0) 0 []) := Lib.hid (by
                have hm := World.ownsRow_made (base := wx.heap.size) (size := 4) (e := 55) wx #[] 0 (by omega) (by unfold maxLen; decide) rfl
                rw [hwz]
                exact hm)
              have HRz := Lib.hid (RecIs.extE HRX.out bz)
              have tl : (L.take i).length = i := by rw [List.length_take]; omega
              have dl : (L.drop i).length = L.length - i := List.length_drop
              have q3 : (0 : Int) ≤ (i : Int) := by omega
              have q4 : (i : Int) ≤ (c : Int) := by omega
              have q5 : (i : Int) ≤ (L.length : Int) := by omega
              have TL := Lib.hid tl
              have DL := Lib.hid dl
              clear tl dl
              have hb0 := keepC bz b0
              have hb1 := keepC bz b1
              have hb2 := keepC bz b2
              have hb3 := keepC bz b3
              clear b0 b1 b2 b3
              clear hb0 hb1 hb2 hb3
              by_cases hic : i = c
              · exact absurd hic (by omega)
              · have hic2 : i < c := by omega
                go_wp2_with (first | (at_builtin; have O2' := O2; clear O2'; refine wpList_append_own _ rfl _ _ 47 rfl wx.heap.size 55 i0 (.agg #[.int .i64 0, .int .i64 0, .int .i64 0, .int .i64 0]) 4 32 Tryz.underlying47 hin hz0 hz1 hz2 rfl (by decide) _ _ _ rfl O2.out ⟨h, i * 4, none⟩ (L.length - i) (c - i) (recCells (L.drop i)) rfl (by rw [recCells_len, DL.out]) (erec_cellsD HR2.out (by omega)) (erec_one _) (by have := L2.out; unfold maxLen; omega) (by have := L2.out; omega) (by omega) ?_; intro v3 w3 hown3 hgrow3 hnil3) | (at_builtin; have O1' := O1; clear O1'; refine wpList_append_own _ rfl _ _ 47 rfl wx.heap.size 55 i0 (.agg #[.int .i64 0, .int .i64 0, .int .i64 0, .int .i64 0]) 4 32 Tryz.underlying47 hin hz0 hz1 hz2 rfl (by decide) _ _ _ rfl (O1.out.alloc _) ⟨w1.heap.size, 0, none⟩ 1 1 (r4cells e) rfl rfl (e1_news e) (fun u hu => erec_one [e] u (by simpa [recCells] using hu)) (by have := TL.out; unfold maxLen; omega) (by have := TL.out; omega) (by (try simp only [World.size_alloc]); omega) ?_; intro v2 w2 hown2 hgrow2 hnil2; have hnn2 : v2 ≠ .slice none 0 0 := (fun e => by have := (hnil2.1 e).2; omega); rw [← recCells_snoc] at hown2; obtain ⟨h2, c2, rfl, hc2, hown2'⟩ := eown_n hown2 hnn2; have g2 : Below wx.heap.size wx w2 := (g1.alloc g1.size _).grown hgrow2 (by have := g1.size; simp; omega) (fun j hj => by have := (O1.out.lt j hj).1; omega); have O2 := Lib.hid hown2'; clear hown2 hown2' hgrow2 hnil2 hnn2; have HR2 := Lib.hid (RecIs.extE HRX.out g2); have L2 : Hid ((L.take i ++ [e]).length = i + 1) := Lib.hid (by rw [List.length_append, TL.out]; rfl); have g2s := g2.size) | (at_builtin; rw [← hwz]; refine wpList_append_own _ rfl _ _ 47 rfl wx.heap.size 55 i0 (.agg #[.int .i64 0, .int .i64 0, .int .i64 0, .int .i64 0]) 4 32 Tryz.underlying47 hin hz0 hz1 hz2 rfl (by decide) _ _ _ rfl OZ.out ⟨h, 0, none⟩ i _ (recCells (L.take i)) rfl (by rw [recCells_len, TL.out]) (erec_cellsT HRz.out (by omega)) (erec_one _) (by unfold maxLen; omega) (by omega) (by omega) ?_; intro v1 w1 hown1 hgrow1 hnil1; have hnn : v1 ≠ .slice none 0 0 := (fun e => by have := (hnil1.1 e).1; cases this); rw [Nat.zero_add, List.nil_append] at hown1; obtain ⟨h1, c1, rfl, hc1, hown1'⟩ := eown_n hown1 hnn; have g1 : Below wx.heap.size wx w1 := bz.grown hgrow1 bz.size (fun j hj => by have := (OZ.out.lt j hj).1; omega); have O1 := Lib.hid hown1'; clear hown1 hown1' hnn hnil1; have d0 := (g1.cell (p := ⟨w.heap.size, 0, none⟩) hbr0).trans B0.out; have d1 := (g1.cell (p := ⟨w.heap.size, 1, none⟩) hbr0).trans B1.out; have d2 := (g1.cell (p := ⟨w.heap.size, 2, none⟩) hbr0).trans B2.out; have d3 := (g1.cell (p := ⟨w.heap.size, 3, none⟩) hbr0).trans B3.out; have hl1 : wx.heap.size ≤ w1.heap.size := g1.size; clear hgrow1))
                have hnn3 : v3 ≠ .slice none 0 0 := fun e => by have := (hnil3.1 e).1; cases this
                have hrc : recCells (L.take i ++ [e]) ++ recCells (L.drop i) = recCells (L.take i ++ e :: L.drop i) := by unfold recCells; rw [← List.flatMap_append]; simp
                have hl3 : (L.take i ++ e :: L.drop i).length = L.length + 1 := by rw [List.length_append, List.length_cons, TL.out, DL.out]; omega
                rw [hrc, show i + 1 + (L.length - i) = (L.take i ++ e :: L.drop i).length by omega] at hown3
                obtain ⟨h3, c3, rfl, hc3, hown3'⟩ := eown_n hown3 hnn3
                have g3 : Below wx.heap.size wx w3 := g2.grown hgrow3 g2.size (fun j hj => by have := (O2.out.lt j hj).1; omega)
                have HO := Lib.hid (erec_own hown3')
                clear hown3 hown3' hgrow3 hnil3 hnn3
                have HL3 := Lib.hid hl3
                clear hl3 hrc
                go_wp2_with fail
                go_ret
                refine ⟨⟨L.take i ++ e :: L.drop i, h3, c3, rfl, ⟨Nat.zero_le _, HO.out.2⟩, HPUT.out.1, HPUT.out.2, by have := HL3.out; omega, hc3⟩, ?_⟩
                exact hW.trans ((Ext.trans E0 g3).mono hW.size)
    · have hiL : i = L.length := by omega
      have q1 : ¬ (i : Int) < (L.length : Int) := by omega
      have q2 : ¬ i < L.length := by omega
      have HIL := Lib.hid hiL
      clear hiL
      have q0 : (0 : Int) ≤ (i : Int) := by omega
      go_wp2_with fail
      go_region
      go_wp2_with fail
      go_region
      obtain ⟨wx, hwx⟩ : ∃ wx, wx = wr.drew.drew := ⟨_, rfl⟩
      have E0 : Below wr.heap.size wr wx := by rw [hwx]; exact (Below.refl _ _).drew.drew
      replace b0 : wx.cell? ⟨w.heap.size, 0, none⟩ = some (.int .i64 e.a) := by rw [hwx]; exact b0
      replace b1 : wx.cell? ⟨w.heap.size, 1, none⟩ = some (.int .i64 e.b) := by rw [hwx]; exact b1
      replace b2 : wx.cell? ⟨w.heap.size, 2, none⟩ = some (.int .i64 e.c) := by rw [hwx]; exact b2
      replace b3 : wx.cell? ⟨w.heap.size, 3, none⟩ = some (.int .i64 e.d) := by rw [hwx]; exact b3
      rw [← hwx]
      clear hwx
      have hbr0 : w.heap.size < wx.heap.size := World.block_lt_of_cell? wx ⟨w.heap.size, 0, none⟩ b0
      have hlr0 := E0.size
      have HRX := Lib.hid (RecIs.extE hRw E0)
      have B0 := Lib.hid b0
      have B1 := Lib.hid b1
      have B2 := Lib.hid b2
      have B3 := Lib.hid b3
      obtain ⟨i0, hin, hz0, hz1, hz2⟩ := info_parts infoEd
      have HPUT := Lib.hid (put_sorted (lt := ltE) (fun h1 h2 => ltE_trans h1 h2) (fun h1 h2 => ltE_tot h1 h2) HS.out e i (by omega) HJ.out (fun x hx => by rw [List.getElem?_eq_none (by have := HIL.out; omega)] at hx; cases hx))
      obtain ⟨wz, hwz⟩ : ∃ wz, wz = wx.alloc (.cells #[] 55) := ⟨_, rfl⟩
      have bz : Below wx.heap.size wx wz := by rw [hwz]; (repeat (first | (with_reducible exact Below.refl _ _) | (with_reducible refine Ext.drewN ?_ _) | (with_reducible refine Below.drew ?_) | (with_reducible refine Ext.alloc ?_ _) | (with_reducible refine Ext.setCell ?_ (by simp; try omega) _) | (with_reducible refine Ext.trans ?_ (by assumption)) | (with_reducible assumption) | exact Below.refl _ _))
      have sz : wz.heap.size = wx.heap.size + 1 := by rw [hwz]; simp
      have OZ : Hid (wz.ownsRow wx.heap.size 55 4 (.slice (some ⟨wx.heap.size, 0, none⟩) 0 0) 0 []) := Lib.hid (by
        have hm := World.ownsRow_made (base := wx.heap.size) (size := 4) (e := 55) wx #[] 0 (by omega) (by unfold maxLen; decide) rfl
        rw [hwz]
        exact hm)
      have HRz := Lib.hid (RecIs.extE HRX.out bz)
      have tl : (L.take i).length = i := by rw [List.length_take]; omega
      have dl : (L.drop i).length = L.length - i := List.length_drop
      have q3 : (0 : Int) ≤ (i : Int) := by omega
      have q4 : (i : Int) ≤ (c : Int) := by omega
      have q5 : (i : Int) ≤ (L.length : Int) := by omega
      have TL := Lib.hid tl
      have DL := Lib.hid dl
      clear tl dl
      have hb0 := keepC bz b0
      have hb1 := keepC bz b1
      have hb2 := keepC bz b2
      have hb3 := keepC bz b3
      clear b0 b1 b2 b3
      clear hb0 hb1 hb2 hb3
      by_cases hic : i = c
      · have hdn : L.drop i = [] := List.drop_eq_nil_of_le (by omega)
        have HDN := Lib.hid hdn
        clear hdn
        have hiL2 : i = L.length := by omega
        subst hic
        rw [← hiL2]
        have HIL2 := Lib.hid hiL2
        clear hiL2
        go_wp2_with (first | (at_builtin; have O2' := O2; clear O2'; refine wpList_append_own _ rfl _ _ 47 rfl wx.heap.size 55 i0 (.agg #[.int .i64 0, .int .i64 0, .int .i64 0, .int .i64 0]) 4 32 Tryz.underlying47 hin hz0 hz1 hz2 rfl (by decide) _ _ _ rfl O2.out ⟨h, 0, none⟩ 0 0 [] ?x0 rfl (fun j u hj => by simp at hj) (fun u hu => by simp at hu) (by have := L2.out; unfold maxLen; omega) (by have := L2.out; omega) (by omega) ?_; rotate_left; intro v3 w3 hown3 hgrow3 hnil3) | (at_builtin; have O1' := O1; clear O1'; refine wpList_append_own _ rfl _ _ 47 rfl wx.heap.size 55 i0 (.agg #[.int .i64 0, .int .i64 0, .int .i64 0, .int .i64 0]) 4 32 Tryz.underlying47 hin hz0 hz1 hz2 rfl (by decide) _ _ _ rfl (O1.out.alloc _) ⟨w1.heap.size, 0, none⟩ 1 1 (r4cells e) rfl rfl (e1_news e) (fun u hu => erec_one [e] u (by simpa [recCells] using hu)) (by have := TL.out; unfold maxLen; omega) (by have := TL.out; omega) (by (try simp only [World.size_alloc]); omega) ?_; intro v2 w2 hown2 hgrow2 hnil2; have hnn2 : v2 ≠ .slice none 0 0 := (fun e => by have := (hnil2.1 e).2; omega); rw [← recCells_snoc] at hown2; obtain ⟨h2, c2, rfl, hc2, hown2'⟩ := eown_n hown2 hnn2; have g2 : Below wx.heap.size wx w2 := (g1.alloc g1.size _).grown hgrow2 (by have := g1.size; simp; omega) (fun j hj => by have := (O1.out.lt j hj).1; omega); have O2 := Lib.hid hown2'; clear hown2 hown2' hgrow2 hnil2 hnn2; have HR2 := Lib.hid (RecIs.extE HRX.out g2); have L2 : Hid ((L.take i ++ [e]).length = i + 1) := Lib.hid (by rw [List.length_append, TL.out]; rfl); have g2s := g2.size) | (at_builtin; rw [← hwz]; refine wpList_append_own _ rfl _ _ 47 rfl wx.heap.size 55 i0 (.agg #[.int .i64 0, .int .i64 0, .int .i64 0, .int .i64 0]) 4 32 Tryz.underlying47 hin hz0 hz1 hz2 rfl (by decide) _ _ _ rfl OZ.out ⟨h, 0, none⟩ i _ (recCells (L.take i)) rfl (by rw [recCells_len, TL.out]) (erec_cellsT HRz.out (by omega)) (erec_one _) (by unfold maxLen; omega) (by omega) (by omega) ?_; intro v1 w1 hown1 hgrow1 hnil1; have hnn : v1 ≠ .slice none 0 0 := (fun e => by have := (hnil1.1 e).1; cases this); rw [Nat.zero_add, List.nil_append] at hown1; obtain ⟨h1, c1, rfl, hc1, hown1'⟩ := eown_n hown1 hnn; have g1 : Below wx.heap.size wx w1 := bz.grown hgrow1 bz.size (fun j hj => by have := (OZ.out.lt j hj).1; omega); have O1 := Lib.hid hown1'; clear hown1 hown1' hnn hnil1; have d0 := (g1.cell (p := ⟨w.heap.size, 0, none⟩) hbr0).trans B0.out; have d1 := (g1.cell (p := ⟨w.heap.size, 1, none⟩) hbr0).trans B1.out; have d2 := (g1.cell (p := ⟨w.heap.size, 2, none⟩) hbr0).trans B2.out; have d3 := (g1.cell (p := ⟨w.heap.size, 3, none⟩) hbr0).trans B3.out; have hl1 : wx.heap.size ≤ w1.heap.size := g1.size; clear hgrow1))
        case x0 => first | rfl | (simp [*]; done) | (dsimp only; trace_state)
        have hnn3 : v3 ≠ .slice none 0 0 := fun e => by have := (hnil3.1 e).1; cases this
        rw [Nat.add_zero, List.append_nil] at hown3
        have hL2 := L2.out
        rw [← hL2] at hown3
        obtain ⟨h3, c3, rfl, hc3, hown3'⟩ := eown_n hown3 hnn3
        clear hL2
        have g3 : Below wx.heap.size wx w3 := g2.grown hgrow3 g2.size (fun j hj => by have := (O2.out.lt j hj).1; omega)
        have HO := Lib.hid (erec_own hown3')
        clear hown3 hown3' hgrow3 hnil3 hnn3
        have hLL : L.take i ++ e :: L.drop i = L.take i ++ [e] := by rw [HDN.out]
        have HLL := Lib.hid hLL
        clear hLL
        go_wp2_with fail
        go_ret
        refine ⟨⟨L.take i ++ [e], h3, c3, rfl, ⟨Nat.zero_le _, HO.out.2⟩, ?_, ?_, by have := L2.out; omega, hc3⟩, ?_⟩
        · rw [← HLL.out]; exact HPUT.out.1
        · rw [← HLL.out]; exact HPUT.out.2
        · exact hW.trans ((Ext.trans E0 g3).mono hW.size)
      · have hic2 : i < c := by omega
        go_wp2_with (first | (at_builtin; have O2' := O2; clear O2'; refine wpList_append_own _ rfl _ _ 47 rfl wx.heap.size 55 i0 (.agg #[.int .i64 0, .int .i64 0, .int .i64 0, .int .i64 0]) 4 32 Tryz.underlying47 hin hz0 hz1 hz2 rfl (by decide) _ _ _ rfl O2.out ⟨h, i * 4, none⟩ (L.length - i) (c - i) (recCells (L.drop i)) rfl (by rw [recCells_len, DL.out]) (erec_cellsD HR2.out (by omega)) (erec_one _) (by have := L2.out; unfold maxLen; omega) (by have := L2.out; omega) (by omega) ?_; intro v3 w3 hown3 hgrow3 hnil3) | (at_builtin; have O1' := O1; clear O1'; refine wpList_append_own _ rfl _ _ 47 rfl wx.heap.size 55 i0 (.agg #[.int .i64 0, .int .i64 0, .int .i64 0, .int .i64 0]) 4 32 Tryz.underlying47 hin hz0 hz1 hz2 rfl (by decide) _ _ _ rfl (O1.out.alloc _) ⟨w1.heap.size, 0, none⟩ 1 1 (r4cells e) rfl rfl (e1_news e) (fun u hu => erec_one [e] u (by simpa [recCells] using hu)) (by have := TL.out; unfold maxLen; omega) (by have := TL.out; omega) (by (try simp only [World.size_alloc]); omega) ?_; intro v2 w2 hown2 hgrow2 hnil2; have hnn2 : v2 ≠ .slice none 0 0 := (fun e => by have := (hnil2.1 e).2; omega); rw [← recCells_snoc] at hown2; obtain ⟨h2, c2, rfl, hc2, hown2'⟩ := eown_n hown2 hnn2; have g2 : Below wx.heap.size wx w2 := (g1.alloc g1.size _).grown hgrow2 (by have := g1.size; simp; omega) (fun j hj => by have := (O1.out.lt j hj).1; omega); have O2 := Lib.hid hown2'; clear hown2 hown2' hgrow2 hnil2 hnn2; have HR2 := Lib.hid (RecIs.extE HRX.out g2); have L2 : Hid ((L.take i ++ [e]).length = i + 1) := Lib.hid (by rw [List.length_append, TL.out]; rfl); have g2s := g2.size) | (at_builtin; rw [← hwz]; refine wpList_append_own _ rfl _ _ 47 rfl wx.heap.size 55 i0 (.agg #[.int .i64 0, .int .i64 0, .int .i64 0, .int .i64 0]) 4 32 Tryz.underlying47 hin hz0 hz1 hz2 rfl (by decide) _ _ _ rfl OZ.out ⟨h, 0, none⟩ i _ (recCells (L.take i)) rfl (by rw [recCells_len, TL.out]) (erec_cellsT HRz.out (by omega)) (erec_one _) (by unfold maxLen; omega) (by omega) (by omega) ?_; intro v1 w1 hown1 hgrow1 hnil1; have hnn : v1 ≠ .slice none 0 0 := (fun e => by have := (hnil1.1 e).1; cases this); rw [Nat.zero_add, List.nil_append] at hown1; obtain ⟨h1, c1, rfl, hc1, hown1'⟩ := eown_n hown1 hnn; have g1 : Below wx.heap.size wx w1 := bz.grown hgrow1 bz.size (fun j hj => by have := (OZ.out.lt j hj).1; omega); have O1 := Lib.hid hown1'; clear hown1 hown1' hnn hnil1; have d0 := (g1.cell (p := ⟨w.heap.size, 0, none⟩) hbr0).trans B0.out; have d1 := (g1.cell (p := ⟨w.heap.size, 1, none⟩) hbr0).trans B1.out; have d2 := (g1.cell (p := ⟨w.heap.size, 2, none⟩) hbr0).trans B2.out; have d3 := (g1.cell (p := ⟨w.heap.size, 3, none⟩) hbr0).trans B3.out; have hl1 : wx.heap.size ≤ w1.heap.size := g1.size; clear hgrow1))
        have hnn3 : v3 ≠ .slice none 0 0 := fun e => by have := (hnil3.1 e).1; cases this
        have hrc : recCells (L.take i ++ [e]) ++ recCells (L.drop i) = recCells (L.take i ++ e :: L.drop i) := by unfold recCells; rw [← List.flatMap_append]; simp
        have hl3 : (L.take i ++ e :: L.drop i).length = L.length + 1 := by rw [List.length_append, List.length_cons, TL.out, DL.out]; omega
        rw [hrc, show i + 1 + (L.length - i) = (L.take i ++ e :: L.drop i).length by omega] at hown3
        obtain ⟨h3, c3, rfl, hc3, hown3'⟩ := eown_n hown3 hnn3
        have g3 : Below wx.heap.size wx w3 := g2.grown hgrow3 g2.size (fun j hj => by have := (O2.out.lt j hj).1; omega)
        have HO := Lib.hid (erec_own hown3')
        clear hown3 hown3' hgrow3 hnil3 hnn3
        have HL3 := Lib.hid hl3
        clear hl3 hrc
        go_wp2_with fail
        go_ret
        refine ⟨⟨L.take i ++ e :: L.drop i, h3, c3, rfl, ⟨Nat.zero_le _, HO.out.2⟩, HPUT.out.1, HPUT.out.2, by have := HL3.out; omega, hc3⟩, ?_⟩
        exact hW.trans ((Ext.trans E0 g3).mono hW.size)
end Go.Proofs.YtfbalpkjcfdakaaGreatDoor

namespace Go.Proofs.YtfbalpkjcfdakaaGreatDoor
open Go.RowKit
set_option linter.unusedVariables false
set_option linter.unusedSimpArgs false
attribute [local go_sem ↓] Go.wp_at_zero Go.wp_at_succ

theorem e1_newsV {w1 : World} {t : TypeId} (a b c d : Int) : ∀ j u, ([.int .i64 a, .int .i64 b, .int .i64 c, .int .i64 d] : List Value)[j]? = some u → (w1.alloc (.cells #[.int .i64 a, .int .i64 b, .int .i64 c, .int .i64 d] t)).cell? ((⟨w1.heap.size, 0, none⟩ : Addr).add j) = some u := by
  intro j u hj
  match j, hj with
  | 0, hj => simp at hj; subst hj; rw [addG]; simp [go_sem]
  | 1, hj => simp at hj; subst hj; rw [addG]; simp [go_sem]
  | 2, hj => simp at hj; subst hj; rw [addG]; simp [go_sem]
  | 3, hj => simp at hj; subst hj; rw [addG]; simp [go_sem]
  | (k + 4), hj => simp at hj
theorem ints_one4 (a b c d : Int) : ∀ u ∈ ([.int .i64 a, .int .i64 b, .int .i64 c, .int .i64 d] : List Value), u.oneCell' = true := fun u hu => by
  simp at hu
  rcases hu with rfl | rfl | rfl | rfl <;> rfl
theorem recCells_app (l l' : List R4) : recCells (l ++ l') = recCells l ++ recCells l' := by unfold recCells; rw [List.flatMap_append]

set_option maxRecDepth 100000 in
set_option maxHeartbeats 8000000 in
theorem l06Sides_any (g c : Nat) (f : Nat → Bool) (w : World) (hB : BitsIs w g f) :
    Calls Tryz.prog 81 #[.slice (some ⟨g, 0, none⟩) 6400 c] w fun r w' => RecRes w.heap.size (sidesU f 80) r w' ∧ Below w.heap.size w w' := by
  obtain ⟨i0, hin, hz0, hz1, hz2⟩ := info_parts infoEd
  have HB := Lib.hid hB
  clear hB
  go_enter Tryz.func81, Tryz.ntmps81
  go_wp2_with fail
  go_loopw [3, 4] (fun s3 s4 wr => ∃ (j n h c' : Nat), j ≤ 80 ∧ s4 = .int .i64 (-40 + (j : Int)) ∧ s3 = .slice (some ⟨h, 0, none⟩) n c' ∧ Hid (wr.ownsRow w.heap.size 55 4 (.slice (some ⟨h, 0, none⟩) n c') n (recCells (sidesU f j))) ∧ Hid (n = (sidesU f j).length) ∧ Below w.heap.size w wr) (fun _ s4 _ => (40 - intOf s4).toNat)
  case atStart => exact ⟨0, 0, _, _, by omega, by simp, rfl, Lib.hid (World.ownsRow_made (base := w.heap.size) (size := 4) (e := 55) w #[] 0 (Nat.le_refl _) (by unfold maxLen; decide) rfl), Lib.hid (by simp [sidesU]), by (repeat (first | (with_reducible exact Below.refl _ _) | (with_reducible refine Ext.drewN ?_ _) | (with_reducible refine Below.drew ?_) | (with_reducible refine Ext.alloc ?_ _) | (with_reducible refine Ext.setCell ?_ (by simp; try omega) _) | (with_reducible refine Ext.trans ?_ (by assumption)) | (with_reducible assumption) | exact Below.refl _ _))⟩
  case round =>
    obtain ⟨j, n, h, c', hj, rfl, rfl, HO, HN, hW⟩ := hrel
    by_cases hj8 : j < 80
    · have q1 : -40 + (j : Int) < 40 := by omega
      go_wp2_with fail
      go_loopw [3, 5] (fun s3 s5 wq => ∃ (k n h c' : Nat), k ≤ 80 ∧ s5 = .int .i64 (-40 + (k : Int)) ∧ s3 = .slice (some ⟨h, 0, none⟩) n c' ∧ Hid (wq.ownsRow w.heap.size 55 4 (.slice (some ⟨h, 0, none⟩) n c') n (recCells (sidesU f j ++ sidesR f (-40 + (j : Int)) k))) ∧ Hid (n = (sidesU f j ++ sidesR f (-40 + (j : Int)) k).length) ∧ Below w.heap.size w wq) (fun _ s5 _ => (40 - intOf s5).toNat)
      case atStart => exact ⟨0, n, h, c', by omega, by simp, rfl, Lib.hid (by simpa [sidesR] using HO.out), Lib.hid (by simpa [sidesR] using HN.out), hW⟩
      case round =>
        rename World => wq
        clear HO HN
        obtain ⟨k, n1, h1, c1, hk, rfl, rfl, OC, HN, hW1⟩ := hrel
        by_cases hk8 : k < 80
        · have q2 : -40 + (k : Int) < 40 := by omega
          have hnb : n1 ≤ 25600 := by
            have h1 := HN.out
            have h2 := sidesU_len f j
            have h3 := sidesR_len f (-40 + (j : Int)) k
            rw [List.length_append] at h1
            omega
          obtain ⟨x, hx⟩ : ∃ x : Int, x = -40 + (k : Int) := ⟨_, rfl⟩
          obtain ⟨y, hy⟩ : ∃ y : Int, y = -40 + (j : Int) := ⟨_, rfl⟩
          have hxb : -40 ≤ x ∧ x ≤ 39 := by omega
          have hyb : -40 ≤ y ∧ y ≤ 39 := by omega
          have HX := Lib.hid hx
          have HY := Lib.hid hy
          have hsr := sidesR_succ f (-40 + (j : Int)) k
          rw [← hx, ← hy] at hsr
          have HSR := Lib.hid hsr
          rw [← hy] at OC HN
          simp only [← hx, ← hy]
          clear hx hy hsr
          obtain ⟨x1, x2⟩ := hxb
          obtain ⟨y1, y2⟩ := hyb
          have HBq := Lib.hid (HB.out.below hW1)
          have e1 : IntKind.i64.wrap (x - 1) = x - 1 := by rw [IntKind.wrap_i64]; omega
          have e2 : IntKind.i64.wrap (y - 1) = y - 1 := by rw [IntKind.wrap_i64]; omega
          have e3 : IntKind.i64.wrap (x + 1) = x + 1 := by rw [IntKind.wrap_i64]; omega
          have e4 : IntKind.i64.wrap (y + 1) = y + 1 := by rw [IntKind.wrap_i64]; omega
          have hWc := hW1
          cases hp : hasB f x y with
          | false =>
            go_wp2_with (first | (go_at_call 127; refine (l03Has_any g c f _ _ _ (HB.out.below hWc)).mono ?_; rintro e w1 ⟨rfl, rfl⟩; first | rw [hp] | rw [h0] | rw [h1'] | rw [h2] | rw [h3]))
            go_roundw
            case rel => exact ⟨k + 1, _, _, _, by omega, by (have hx9 := HX.out); go_num, rfl, Lib.hid (by have h9 := OC.out; rw [HSR.out]; simpa [sidesAt, gS, mkE, hp, recCells, r4cells, List.append_assoc] using h9), Lib.hid (by have h9 := HN.out; rw [HSR.out]; simp [sidesAt, gS, mkE, hp]; simp at h9; omega), hWc⟩
            case measure => (have hx9 := HX.out); simp [intOf]; omega
          | true =>
            cases h0 : hasB f x (y - 1)
            all_goals
              cases h1' : hasB f (x + 1) y
              all_goals
                cases h2 : hasB f x (y + 1)
                all_goals
                  cases h3 : hasB f (x - 1) y
                  all_goals
                    go_wp2_with (first | (go_at_call 127; refine (l03Has_any g c f _ _ _ (HB.out.below hWc)).mono ?_; rintro e w1 ⟨rfl, rfl⟩; first | rw [hp] | rw [h0] | rw [h1'] | rw [h2] | rw [h3]) | (at_builtin; refine wpList_append_own _ rfl _ _ 47 rfl w.heap.size 55 i0 (.agg #[.int .i64 0, .int .i64 0, .int .i64 0, .int .i64 0]) 4 32 Tryz.underlying47 hin hz0 hz1 hz2 rfl (by decide) _ _ _ rfl (OC.out.alloc _) ⟨_, 0, none⟩ 1 1 [.int .i64 _, .int .i64 _, .int .i64 _, .int .i64 _] rfl rfl (e1_newsV _ _ _ _) (ints_one4 _ _ _ _) (by unfold maxLen; omega) (by omega) (by (try simp only [World.size_alloc]); have := hWc.size; omega) ?_; intro v' w' hown' hgrow hnil; have hnn : v' ≠ .slice none 0 0 := (fun e => by have := (hnil.1 e).2; omega); obtain ⟨h', c', rfl, hc', hown2⟩ := eown_n hown' hnn; have hWn := (hWc.alloc hWc.size _).grown hgrow (by have := hWc.size; simp; omega) (fun j hj => (OC.out.lt j hj).1); have OC := Lib.hid hown2; have hWc := hWn; clear hown' hown2 hgrow hnil hnn hWn))
                    go_roundw
                    case rel => exact ⟨k + 1, _, _, _, by omega, by (have hx9 := HX.out); go_num, rfl, Lib.hid (by have h9 := OC.out; rw [HSR.out]; simpa [sidesAt, gS, mkE, hp, h0, h1', h2, h3, recCells, r4cells, List.append_assoc] using h9), Lib.hid (by have h9 := HN.out; rw [HSR.out]; simp [sidesAt, gS, mkE, hp, h0, h1', h2, h3]; simp at h9; omega), hWc⟩
                    case measure => (have hx9 := HX.out); simp [intOf]; omega
        · have q2 : ¬ -40 + (k : Int) < 40 := by omega
          obtain rfl : k = 80 := by omega
          go_wp2_with fail
          go_roundw
          case rel => exact ⟨j + 1, n1, h1, c1, by omega, by go_num, rfl, Lib.hid (by rw [sidesU_succ]; exact OC.out), Lib.hid (by rw [sidesU_succ]; exact HN.out), hW1⟩
          case measure => simp [intOf]; omega
    · have q1 : ¬ -40 + (j : Int) < 40 := by omega
      obtain rfl : j = 80 := by omega
      have HI := Lib.hid (erec_own HO.out)
      go_wp2_with fail
      refine bodyPost_ret (results_tmp rfl _ _ _) rfl ⟨⟨h, c', ?_, HI.out⟩, hW⟩
      show Ending.returned (Value.slice (some ⟨h, 0, none⟩) n c') = _
      rw [HN.out]

end Go.Proofs.YtfbalpkjcfdakaaGreatDoor

namespace Go.Proofs.YtfbalpkjcfdakaaGreatDoor
open Go.RowKit
set_option linter.unusedVariables false
set_option linter.unusedSimpArgs false
attribute [local go_sem ↓] Go.wp_at_zero Go.wp_at_succ

/-- What has come of the first j sides. -/
def EdgesTo (f : Nat → Bool) (S : List R4) (j : Nat) (L : List R4) : Prop :=
  L.Pairwise ltE ∧ L.length ≤ j ∧ ∀ e, e ∈ L ↔ ∃ (i : Nat) (o : Nat) (c t lo hi : Int), i < j ∧ S[i]? = some (mkE o c t (t + 1)) ∧ o < 4 ∧ gS f o c t = true ∧ firstB f o c t = true ∧ MaxI (gS f o c) lo hi ∧ lo ≤ t ∧ t < hi ∧ e = mkE o c lo hi
theorem EdgesTo.start (f : Nat → Bool) (S : List R4) : EdgesTo f S 0 [] := ⟨.nil, Nat.le_refl _, fun e => ⟨fun h => by simp at h, fun ⟨i, o, c, t, lo, hi, h, _⟩ => absurd h (by omega)⟩⟩
theorem EdgesTo.skip {f : Nat → Bool} {S : List R4} {j o : Nat} {c t : Int} {L : List R4} (h : EdgesTo f S j L) (ho : o < 4) (hs : S[j]? = some (mkE o c t (t + 1))) (hf : firstB f o c t = false) : EdgesTo f S (j + 1) L :=
  ⟨h.1, by have := h.2.1; omega, fun e => (h.2.2 e).trans ⟨fun ⟨i, o', c', t', lo, hi, h1, r⟩ => ⟨i, o', c', t', lo, hi, by omega, r⟩, fun ⟨i, o', c', t', lo, hi, h1, h2, h3, h4, h5, r⟩ => by
    by_cases e : i = j
    · subst e
      rw [hs] at h2
      obtain ⟨rfl, rfl, rfl, -⟩ := mkE_inj ho h3 (by omega) (by omega) (Option.some.inj h2)
      rw [hf] at h5
      cases h5
    · exact ⟨i, o', c', t', lo, hi, by omega, h2, h3, h4, h5, r⟩⟩⟩
theorem EdgesTo.put {f : Nat → Bool} {S : List R4} {j o : Nat} {c t lo hi : Int} {L L' : List R4} (h : EdgesTo f S j L) (ho : o < 4) (hs : S[j]? = some (mkE o c t (t + 1))) (hg : gS f o c t = true) (hf : firstB f o c t = true)
    (hm : MaxI (gS f o c) lo hi) (t1 : lo ≤ t) (t2 : t < hi) (h1 : L'.Pairwise ltE) (h2 : ∀ a, a ∈ L' ↔ a = mkE o c lo hi ∨ a ∈ L) (h3 : L'.length ≤ L.length + 1) : EdgesTo f S (j + 1) L' :=
  ⟨h1, by have := h.2.1; omega, fun e => by
    rw [h2, h.2.2]
    constructor
    · rintro (rfl | ⟨i, o', c', t', lo', hi', k, r⟩)
      · exact ⟨j, o, c, t, lo, hi, by omega, hs, ho, hg, hf, hm, t1, t2, rfl⟩
      · exact ⟨i, o', c', t', lo', hi', by omega, r⟩
    · rintro ⟨i, o', c', t', lo', hi', k1, k2, k3, k4, k5, k6, k7, k8, k9⟩
      by_cases e' : i = j
      · subst e'
        rw [hs] at k2
        obtain ⟨rfl, rfl, rfl, -⟩ := mkE_inj ho k3 (by omega) (by omega) (Option.some.inj k2)
        obtain ⟨rfl, rfl⟩ := hm.eq k6 t1 t2 k7 k8
        exact .inl k9
      · exact .inr ⟨i, o', c', t', lo', hi', by omega, k2, k3, k4, k5, k6, k7, k8, k9⟩⟩
theorem EdgesTo.done {f : Nat → Bool} {L : List R4} (h : EdgesTo f (sidesU f 80) (sidesU f 80).length L) : EdgesOf f L :=
  ⟨h.1, fun e => by
    rw [h.2.2, edge_iff]
    constructor
    · rintro ⟨i, o, c, t, lo, hi, _, _, h3, h4, h5, h6, h7, h8, h9⟩
      exact ⟨o, c, t, lo, hi, h3, h4, h5, h6, h7, h8, h9⟩
    · rintro ⟨o, c, t, lo, hi, h3, h4, h5, h6, h7, h8, h9⟩
      obtain ⟨i, hi'⟩ := List.getElem?_of_mem (mem_sides.2 ⟨o, c, t, h3, h4, rfl⟩)
      exact ⟨i, o, c, t, lo, hi, (List.getElem?_eq_some_iff.1 hi').1, hi', h3, h4, h5, h6, h7, h8, h9⟩⟩

/-- A side's start and direction ask whether there is one before it. -/
theorem first_ask (f : Nat → Bool) {o : Nat} (ho : o < 4) (c t : Int) : sB f o ((mkE o c t (t + 1)).a - dX o) ((mkE o c t (t + 1)).b - dY o) = !firstB f o c t := by
  rcases o4 ho with rfl | rfl | rfl | rfl
  · simp only [sB, mkE, dX, dY, firstB, Int.sub_zero]
    simp
  · simp only [sB, mkE, dX, dY, firstB, Int.sub_zero]
    simp
  · simp only [sB, mkE, dX, dY, firstB, Int.sub_zero]
    simp
  · simp only [sB, mkE, dX, dY, firstB, Int.sub_zero]
    simp
theorem side_d {o : Nat} (ho : o < 4) (c t : Int) : (mkE o c t (t + 1)).c - (mkE o c t (t + 1)).a = dX o ∧ (mkE o c t (t + 1)).d - (mkE o c t (t + 1)).b = dY o := by
  rcases o4 ho with rfl | rfl | rfl | rfl <;> simp only [mkE, dX, dY] <;> omega
theorem side_b {f : Nat → Bool} {o : Nat} (ho : o < 4) {c t : Int} (h : gS f o c t = true) : (-40 ≤ (mkE o c t (t + 1)).a ∧ (mkE o c t (t + 1)).a ≤ 40) ∧ (-40 ≤ (mkE o c t (t + 1)).b ∧ (mkE o c t (t + 1)).b ≤ 40) ∧ (-40 ≤ (mkE o c t (t + 1)).c ∧ (mkE o c t (t + 1)).c ≤ 40) ∧ (-40 ≤ (mkE o c t (t + 1)).d ∧ (mkE o c t (t + 1)).d ≤ 40) := by
  have := gS_t h
  rcases o4 ho with rfl | rfl | rfl | rfl <;> simp only [mkE] <;> omega
theorem dir_b (o : Nat) : (-1 ≤ dX o ∧ dX o ≤ 1) ∧ (-1 ≤ dY o ∧ dY o ≤ 1) := by
  unfold dX dY
  constructor
  · split <;> omega
  · split <;> omega

/-- The answer is the list of the set's edges. -/
def EdgeRes (f : Nat → Bool) (r : Ending) (w : World) : Prop := ∃ L h c', r = .returned (.slice (some ⟨h, 0, none⟩) L.length c') ∧ L.length ≤ 25600 ∧ L.length ≤ c' ∧ RecIs 0 w h L ∧ EdgesOf f L
set_option maxRecDepth 100000 in
set_option maxHeartbeats 4000000 in
theorem l06Edges_any (g c : Nat) (f : Nat → Bool) (w : World) (hB : BitsIs w g f) :
    Calls Tryz.prog 45 #[.slice (some ⟨g, 0, none⟩) 6400 c] w fun r w' => EdgeRes f r w' ∧ Below w.heap.size w w' := by
  have HB := Lib.hid hB
  clear hB
  obtain ⟨S, hS⟩ : ∃ S, S = sidesU f 80 := ⟨_, rfl⟩
  have hSl : S.length ≤ 25600 := by rw [hS]; exact sidesU_len f 80
  have hsd := fun w' (hw : BitsIs w' g f) => l06Sides_any g c f w' hw
  rw [← hS] at hsd
  have HS := Lib.hid hS
  clear hS
  go_enter Tryz.func45, Tryz.ntmps45
  go_wp2_with (go_at_call 81; refine (hsd _ (HB.out.below (by (repeat (first | (with_reducible exact Below.refl _ _) | (with_reducible refine Ext.drewN ?_ _) | (with_reducible refine Below.drew ?_) | (with_reducible refine Ext.alloc ?_ _) | (with_reducible refine Ext.setCell ?_ (by simp; try omega) _) | (with_reducible refine Ext.trans ?_ (by assumption)) | (with_reducible assumption) | exact Below.refl _ _))))).mono ?_; rintro r w1 ⟨⟨h, c', rfl, hI⟩, bw1⟩)
  have B1 : Below w.heap.size w w1 := by (repeat (first | (with_reducible exact Below.refl _ _) | (with_reducible refine Ext.drewN ?_ _) | (with_reducible refine Below.drew ?_) | (with_reducible refine Ext.alloc ?_ _) | (with_reducible refine Ext.setCell ?_ (by simp; try omega) _) | (with_reducible refine Ext.trans ?_ (by assumption)) | (with_reducible assumption) | exact Below.refl _ _))
  have H0 : Hid (RecIs 0 w1 w.heap.size []) := Lib.hid ⟨Nat.zero_le _, Nat.lt_of_lt_of_le (by simp) bw1.size, fun i r hr => by simp at hr⟩
  have HI := Lib.hid hI
  clear hI
  go_loopw [3, 5] (fun s3 s5 wr => ∃ (j h1 c1 : Nat) (L : List R4), j ≤ S.length ∧ s5 = .int .i64 (j : Int) ∧ s3 = .slice (some ⟨h1, 0, none⟩) L.length c1 ∧ L.length ≤ c1 ∧ Hid (RecIs 0 wr h1 L) ∧ Hid (EdgesTo f S j L) ∧ Below w1.heap.size w1 wr) (fun _ s5 _ => S.length - (intOf s5).toNat)
  case atStart => exact ⟨0, w.heap.size, 0, [], by omega, rfl, rfl, by simp, H0, Lib.hid (EdgesTo.start f S), Below.refl _ _⟩
  case round =>
    obtain ⟨j, h1, c1, L, hj, rfl, rfl, hc1, HL, HE, hW⟩ := hrel
    have hLj : L.length ≤ j := HE.out.2.1
    by_cases hjs : j < S.length
    · obtain ⟨s, hs⟩ : ∃ s, S[j]? = some s := ⟨_, List.getElem?_eq_getElem hjs⟩
      obtain ⟨o, cc, t, ho, hg, rfl⟩ := mem_sides.1 (by rw [← HS.out]; exact List.mem_of_getElem? hs)
      obtain ⟨x0, x1, x2, x3⟩ := (HI.out.extE hW).2.2 j _ hs
      obtain ⟨ba, bb, bc, bd⟩ := side_b ho hg
      obtain ⟨d0, d1⟩ := side_d ho cc t
      obtain ⟨d2, d3⟩ := dir_b o
      have hask := first_ask f ho cc t
      have hwh := fun w' (hw : BitsIs w' g f) => l06Whole_any g c f o ho cc t w' hw hg
      have HSJ := Lib.hid hs
      have HG := Lib.hid hg
      obtain ⟨e, he⟩ : ∃ e, e = mkE o cc t (t + 1) := ⟨_, rfl⟩
      rw [← he] at x0 x1 x2 x3 ba bb bc bd d0 d1 hask hwh
      have HEE := Lib.hid he
      clear he hg hs
      have q0 : (0 : Int) ≤ (j : Int) := by omega
      have q1 : (j : Int) < (S.length : Int) := by omega
      have Bw := B1.trans (hW.mono B1.size)
      have HBr := Lib.hid (HB.out.below Bw)
      have his := fun (w' : World) (hB' : BitsIs w' g f) => l06Is_any g c f o ho (e.a - dX o) (e.b - dY o) w' hB' (by omega) (by omega)
      obtain ⟨ux, hux⟩ : ∃ ux, ux = dX o := ⟨_, rfl⟩
      obtain ⟨uy, huy⟩ : ∃ uy, uy = dY o := ⟨_, rfl⟩
      rw [← hux] at d0 d2 hask his
      rw [← huy] at d1 d3 hask his
      have w0 : IntKind.i64.wrap (e.c - e.a) = ux := by rw [IntKind.wrap_i64]; omega
      have w1' : IntKind.i64.wrap (e.d - e.b) = uy := by rw [IntKind.wrap_i64]; omega
      have w2 : IntKind.i64.wrap (e.a - ux) = e.a - ux := by rw [IntKind.wrap_i64]; omega
      have w3 : IntKind.i64.wrap (e.b - uy) = e.b - uy := by rw [IntKind.wrap_i64]; omega
      have HUX := Lib.hid hux
      have HUY := Lib.hid huy
      clear hux huy d0 d1
      rw [hask] at his
      clear hask
      cases hf : firstB f o cc t with
      | false =>
        rw [hf] at his
        have HF := Lib.hid hf
        clear hf
        go_wp2_with (go_at_call 96; refine (his _ (HBr.out.below (by (repeat (first | (with_reducible exact Below.refl _ _) | (with_reducible refine Ext.drewN ?_ _) | (with_reducible refine Below.drew ?_) | (with_reducible refine Ext.alloc ?_ _) | (with_reducible refine Ext.setCell ?_ (by simp; try omega) _) | (with_reducible refine Ext.trans ?_ (by assumption)) | (with_reducible assumption) | exact Below.refl _ _))))).mono ?_; rintro r w2 ⟨rfl, rfl⟩)
        go_roundw
        case rel => exact ⟨j + 1, h1, c1, L, by omega, by go_num, rfl, hc1, Lib.hid (HL.out.extE (by (repeat (first | (with_reducible exact Below.refl _ _) | (with_reducible refine Ext.drewN ?_ _) | (with_reducible refine Below.drew ?_) | (with_reducible refine Ext.alloc ?_ _) | (with_reducible refine Ext.setCell ?_ (by simp; try omega) _) | (with_reducible refine Ext.trans ?_ (by assumption)) | (with_reducible assumption) | exact Below.refl _ _)))), Lib.hid (HE.out.skip ho HSJ.out HF.out), Ext.alloc hW _⟩
        case measure => simp [intOf]; omega
      | true =>
        rw [hf] at his
        have HF := Lib.hid hf
        clear hf
        go_wp2_with (first | (go_at_call 96; refine (his _ (HBr.out.below (by (repeat (first | (with_reducible exact Below.refl _ _) | (with_reducible refine Ext.drewN ?_ _) | (with_reducible refine Below.drew ?_) | (with_reducible refine Ext.alloc ?_ _) | (with_reducible refine Ext.setCell ?_ (by simp; try omega) _) | (with_reducible refine Ext.trans ?_ (by assumption)) | (with_reducible assumption) | exact Below.refl _ _))))).mono ?_; rintro r w2 ⟨rfl, rfl⟩) | (go_at_call 98; refine (hwh _ (HBr.out.below (by (repeat (first | (with_reducible exact Below.refl _ _) | (with_reducible refine Ext.drewN ?_ _) | (with_reducible refine Below.drew ?_) | (with_reducible refine Ext.alloc ?_ _) | (with_reducible refine Ext.setCell ?_ (by simp; try omega) _) | (with_reducible refine Ext.trans ?_ (by assumption)) | (with_reducible assumption) | exact Below.refl _ _))))).mono ?_; rintro r w3 ⟨⟨lo, hi, hm, hlo, hhi, rfl⟩, bw3⟩; have B3 : Below wr.heap.size wr w3 := Ext.trans (Ext.alloc (Below.refl _ _) _) bw3) | (go_at_call 97; refine (l06Put_any h1 c1 L (mkE o cc lo hi) _ (HL.out.extE B3) (by omega) hc1 HE.out.1).mono ?_; rintro r w4 ⟨⟨L', h2, c2, rfl, hR2, hs2, hm2, hl2, hc2⟩, bw4⟩; have HR2 := Lib.hid hR2; have HS2 := Lib.hid hs2; have HM2 := Lib.hid hm2; clear hR2 hs2 hm2))
        go_roundw
        case rel => exact ⟨j + 1, h2, c2, L', by omega, by go_num, rfl, hc2, HR2, Lib.hid (HE.out.put ho HSJ.out HG.out HF.out hm hlo hhi HS2.out HM2.out hl2), hW.trans ((Ext.trans B3 bw4).mono hW.size)⟩
        case measure => simp [intOf]; omega
    · have q1 : ¬ (j : Int) < (S.length : Int) := by omega
      obtain rfl : j = S.length := by omega
      go_wp2_with fail
      refine bodyPost_ret (results_tmp rfl _ _ _) rfl ⟨⟨L, h1, c1, rfl, by omega, hc1, HL.out, ?_⟩, ?_⟩
      · have h9 := HE.out
        rw [HS.out] at h9
        exact h9.done
      · exact B1.trans (hW.mono B1.size)
end Go.Proofs.YtfbalpkjcfdakaaGreatDoor
