/- Does a cell place another one: by the model and by the program. Condition: the cell's parts are in memory. -/
import Derived.Test.YtciodcknobccdaaDoorLcB
namespace Go.Proofs.YtciodcknobccdaaDoor
open Go.RowKit
set_option linter.unusedVariables false
set_option linter.unusedSimpArgs false
attribute [local go_sem ↓] Go.wp_at_zero Go.wp_at_succ

/-- No instance places the cell k. -/
def noPl (k : Int) (s : Ins) : Bool := !decide (s.c = k)
def plB (c : Cel) (k : Int) : Bool := !c.d.all (noPl k)
set_option maxRecDepth 100000 in
set_option maxHeartbeats 4000000 in
theorem l09Uses_any (c : Cel) (a1 a2 a3 : Option Addr) (k1 k2 k3 : Nat) (k : Int) (w : World) (hd : c.d.length ≤ 1048576) (hC : CelAt w.heap.size w a1 a2 a3 c) :
    Calls Tryd.prog 66 #[.agg #[.string c.s, .slice a1 c.a.length k1, .slice a2 c.b.length k2, .slice a3 c.d.length k3], .int .i64 k] w fun e w' => e = .returned (.bool (plB c k)) ∧ Below w.heap.size w w' := by
  have HC := Lib.hid hC
  clear hC
  go_enter Tryd.func66, Tryd.ntmps66
  go_wp2_with fail
  go_loopw [5] (fun s4 wr => ∃ i : Nat, i ≤ c.d.length ∧ s4 = .int .i64 (i : Nat) ∧ Hid (alF (noPl k) c.d i = true) ∧ Below w.heap.size w wr ∧ Hid (BoxC w.heap.size wr c a1 a2 a3 k1 k2 k3)) (fun s4 _ => c.d.length - (intOf s4).toNat)
  case atStart => exact ⟨0, by omega, rfl, Lib.hid (alF_zero _ _), by (repeat (first | (with_reducible exact Below.refl _ _) | (with_reducible refine Ext.drewN ?_ _) | (with_reducible refine Below.drew ?_) | (with_reducible refine Ext.alloc ?_ _) | (with_reducible refine Ext.setCell ?_ (by simp; try omega) _) | (with_reducible refine Ext.trans ?_ (by assumption)) | (with_reducible assumption) | exact Below.refl _ _)), Lib.hid ⟨by simp, by simp [go_sem], by simp [go_sem], by simp [go_sem], by simp [go_sem]⟩⟩
  case round =>
    obtain ⟨i, hik, rfl, HA, hW, HX⟩ := hrel
    obtain ⟨x0, y0, y1, y2, y3⟩ := HX.out
    by_cases hlt : i < c.d.length
    · obtain ⟨s, hi⟩ := get_some hlt
      obtain ⟨b, off, rfl, hb, c0, c1, c2, c3, c4, c5, c6, c7⟩ := ins_at (HC.out.2.2.below hW) hi
      have r5 : ((i : Nat) : Int) < (c.d.length : Int) := by omega
      have r0 : (0 : Int) ≤ ((i : Nat) : Int) := by omega
      have HI := Lib.hid hi
      clear hi
      by_cases he : s.c = k
      · have HN : Hid (plB c k = true) := Lib.hid (by unfold plB; rw [all_f HI.out (show noPl k s = false by unfold noPl; simp [he])]; rfl)
        have hq : (s.c == k) = true := beq_iff_eq.2 he
        clear he
        go_wp2_with fail
        go_ret
        exact ⟨ret_bool (by simp [HN.out]), by (repeat (first | (with_reducible exact Below.refl _ _) | (with_reducible refine Ext.drewN ?_ _) | (with_reducible refine Below.drew ?_) | (with_reducible refine Ext.alloc ?_ _) | (with_reducible refine Ext.setCell ?_ (by simp; try omega) _) | (with_reducible refine Ext.trans ?_ (by assumption)) | (with_reducible assumption) | exact Below.refl _ _))⟩
      · have HA1 : Hid (alF (noPl k) c.d (i + 1) = true) := Lib.hid (by rw [alF_succ HI.out, HA.out]; unfold noPl; simp [he])
        have hq : (s.c == k) = false := beq_eq_false_iff_ne.2 he
        clear he
        go_wp2_with fail
        go_roundw
        case rel => exact ⟨i + 1, by omega, by go_num, HA1, hW, HX⟩
        case measure => simp [intOf]; omega
    · have r5 : ¬ ((i : Nat) : Int) < (c.d.length : Int) := by omega
      have HN : Hid (plB c k = false) := Lib.hid (by unfold plB; rw [← alF_full, show c.d.length = i by omega, HA.out]; rfl)
      go_wp2_with fail
      go_ret
      exact ⟨ret_bool (by simp [HN.out]), by (repeat (first | (with_reducible exact Below.refl _ _) | (with_reducible refine Ext.drewN ?_ _) | (with_reducible refine Below.drew ?_) | (with_reducible refine Ext.alloc ?_ _) | (with_reducible refine Ext.setCell ?_ (by simp; try omega) _) | (with_reducible refine Ext.trans ?_ (by assumption)) | (with_reducible assumption) | exact Below.refl _ _))⟩
theorem places1_any (s : Ins) (k : Int) (g : Nat) (w : World) (hx : w.cell? ⟨g, 0, none⟩ = some (.int .i64 k)) (lx : g < w.heap.size) :
    Calls Tryd.prog 81 #[.agg #[.int .i64 s.c, .int .i64 s.o, .int .i64 s.x, .int .i64 s.y, .int .i64 s.m, .int .i64 s.n, .int .i64 s.p, .int .i64 s.q], .pointer (some ⟨g, 0, none⟩)] w fun e w' => e = .returned (.bool (!noPl k s)) ∧ Below w.heap.size w w' := by
  have hx2 : ∀ O, (w.alloc O).cell? ⟨g, 0, none⟩ = some (.int .i64 k) := fun O => keepC ((Below.refl _ _).alloc (Nat.le_refl _) O) hx
  have HE : Hid ((!noPl k s) = (s.c == k)) := Lib.hid (by unfold noPl; rw [Bool.not_not, Bool.eq_iff_iff, decide_eq_true_eq, beq_iff_eq])
  rw [HE.out]
  go_enter Tryd.func81, Tryd.ntmps81
  go_wp2_with fail
  go_ret
  exact ⟨rfl, by (repeat (first | (with_reducible exact Below.refl _ _) | (with_reducible refine Ext.drewN ?_ _) | (with_reducible refine Below.drew ?_) | (with_reducible refine Ext.alloc ?_ _) | (with_reducible refine Ext.setCell ?_ (by simp; try omega) _) | (with_reducible refine Ext.trans ?_ (by assumption)) | (with_reducible assumption) | exact Below.refl _ _))⟩
set_option maxHeartbeats 4000000 in
theorem indexPlaces_any (a : Option Addr) (l : List Ins) (cap : Nat) (k : Int) (g : Nat) (w : World) (hlen : l.length ≤ 1048576) (hL : LiesAt 8 Ins.cs w.heap.size w a l) (hx : w.cell? ⟨g, 0, none⟩ = some (.int .i64 k)) (lx : g < w.heap.size) :
    Calls Tryd.prog 115 #[.slice a l.length cap, .func (.func 81) #[] #[.pointer (some ⟨g, 0, none⟩)]] w fun e w' => (∃ r : Int, e = .returned (.int .i64 r) ∧ decide (0 ≤ r) = !l.all (noPl k)) ∧ Below w.heap.size w w' := by
  have HL := Lib.hid hL
  clear hL
  go_enter Tryd.func115, Tryd.ntmps115
  go_wp2_with fail
  go_loopw [8] (fun s8 wr => ∃ i : Nat, i ≤ l.length ∧ s8 = .int .i64 (i : Nat) ∧ Hid (alF (noPl k) l i = true) ∧ Below w.heap.size w wr) (fun s8 _ => l.length - (intOf s8).toNat)
  case atStart => exact ⟨0, by omega, rfl, Lib.hid (alF_zero _ _), Below.refl _ _⟩
  case round =>
    obtain ⟨i, hi, rfl, HA, hW⟩ := hrel
    by_cases hlt : i < l.length
    · obtain ⟨s, hs⟩ := get_some hlt
      obtain ⟨b, off, rfl, hb, c0, c1, c2, c3, c4, c5, c6, c7⟩ := ins_at (HL.out.below hW) hs
      have hx' := (hW.cell (p := ⟨g, 0, none⟩) lx).trans hx
      have sW := hW.size
      have q1 : ((i : Nat) : Int) < (l.length : Int) := by omega
      have q0 : (0 : Int) ≤ ((i : Nat) : Int) := by omega
      have HI := Lib.hid hs
      clear hs
      cases he : noPl k s with
      | false =>
        have HN : Hid (l.all (noPl k) = false) := Lib.hid (all_f HI.out he)
        go_wp2_with (first | (go_at_call 81; refine (places1_any s k g _ hx' (by omega)).mono ?_; rintro e v0 ⟨rfl, bv0⟩; rw [he]))
        refine bodyPost_ret (v := .int .i64 (i : Nat)) (by simp [*, results, Tryd.results115, go_sem]) rfl ⟨⟨_, rfl, by rw [HN.out]; simp⟩, ?_⟩
        (repeat (first | (with_reducible exact Below.refl _ _) | (with_reducible refine Ext.drewN ?_ _) | (with_reducible refine Below.drew ?_) | (with_reducible refine Ext.alloc ?_ _) | (with_reducible refine Ext.setCell ?_ (by simp; try omega) _) | (with_reducible refine Ext.trans ?_ (by assumption)) | (with_reducible assumption) | exact Below.refl _ _))
      | true =>
        have HA1 : Hid (alF (noPl k) l (i + 1) = true) := Lib.hid (by rw [alF_succ HI.out, HA.out, he]; rfl)
        go_wp2_with (first | (go_at_call 81; refine (places1_any s k g _ hx' (by omega)).mono ?_; rintro e v0 ⟨rfl, bv0⟩; rw [he]))
        go_roundw
        case rel => exact ⟨i + 1, by omega, by go_num, HA1, by (repeat (first | (with_reducible exact Below.refl _ _) | (with_reducible refine Ext.drewN ?_ _) | (with_reducible refine Below.drew ?_) | (with_reducible refine Ext.alloc ?_ _) | (with_reducible refine Ext.setCell ?_ (by simp; try omega) _) | (with_reducible refine Ext.trans ?_ (by assumption)) | (with_reducible assumption) | exact Below.refl _ _))⟩
        case measure => simp [intOf]; omega
    · have q1 : ¬ ((i : Nat) : Int) < (l.length : Int) := by omega
      have HN : Hid (l.all (noPl k) = true) := Lib.hid (by rw [← alF_full, show l.length = i by omega]; exact HA.out)
      go_wp2_with fail
      refine bodyPost_ret (v := .int .i64 (-1)) (by simp [*, results, Tryd.results115, go_sem]) rfl ⟨⟨_, rfl, by rw [HN.out]; decide⟩, ?_⟩
      exact hW
theorem containsPlaces_any (a : Option Addr) (l : List Ins) (cap : Nat) (k : Int) (g : Nat) (w : World) (hlen : l.length ≤ 1048576) (hL : LiesAt 8 Ins.cs w.heap.size w a l) (hx : w.cell? ⟨g, 0, none⟩ = some (.int .i64 k)) (lx : g < w.heap.size) :
    Calls Tryd.prog 80 #[.slice a l.length cap, .func (.func 81) #[] #[.pointer (some ⟨g, 0, none⟩)]] w fun e w' => e = .returned (.bool (!l.all (noPl k))) ∧ Below w.heap.size w w' := by
  go_enter Tryd.func80, Tryd.ntmps80
  go_wp2_with fail
  refine (indexPlaces_any a l cap k g _ hlen hL hx lx).mono ?_
  rintro e w1 ⟨⟨r, rfl, hr⟩, bw1⟩
  have HR1 := Lib.hid hr
  clear hr
  go_wp2_with fail
  refine bodyPost_ret (v := .bool (decide (0 ≤ r))) (by simp [*, results, Tryd.results80, go_sem]) rfl ⟨by rw [HR1.out], ?_⟩
  (repeat (first | (with_reducible exact Below.refl _ _) | (with_reducible refine Ext.drewN ?_ _) | (with_reducible refine Below.drew ?_) | (with_reducible refine Ext.alloc ?_ _) | (with_reducible refine Ext.setCell ?_ (by simp; try omega) _) | (with_reducible refine Ext.trans ?_ (by assumption)) | (with_reducible assumption) | exact Below.refl _ _))
theorem places_any (c : Cel) (a1 a2 a3 : Option Addr) (k1 k2 k3 : Nat) (k : Int) (w : World) (hd : c.d.length ≤ 1048576) (hC : CelAt w.heap.size w a1 a2 a3 c) :
    Calls Tryd.prog 44 #[.agg #[.string c.s, .slice a1 c.a.length k1, .slice a2 c.b.length k2, .slice a3 c.d.length k3], .int .i64 k] w fun e w' => e = .returned (.bool (plB c k)) ∧ Below w.heap.size w w' := by
  have HC := Lib.hid hC
  clear hC
  have hmf : ∀ (fn : Fn) (first cap : Array Value) (w : World), (Instr.makeFunc fn first cap).run Tryd.prog w = .ok (.func fn first cap) w := fun _ _ _ _ => rfl
  go_enter Tryd.func44, Tryd.ntmps44
  go_wp2_with (first | (go_at_call 80; refine (containsPlaces_any _ c.d _ k (w.heap.size + 1) _ hd (HC.out.2.2.ext (by (repeat (first | (with_reducible exact Below.refl _ _) | (with_reducible refine Ext.drewN ?_ _) | (with_reducible refine Below.drew ?_) | (with_reducible refine Ext.alloc ?_ _) | (with_reducible refine Ext.setCell ?_ (by simp; try omega) _) | (with_reducible refine Ext.trans ?_ (by assumption)) | (with_reducible assumption) | exact Below.refl _ _)))) (by simp [go_sem]) (by simp)).mono ?_; rintro e v1 ⟨rfl, bv1⟩))
  go_ret
  exact ⟨rfl, by (repeat (first | (with_reducible exact Below.refl _ _) | (with_reducible refine Ext.drewN ?_ _) | (with_reducible refine Below.drew ?_) | (with_reducible refine Ext.alloc ?_ _) | (with_reducible refine Ext.setCell ?_ (by simp; try omega) _) | (with_reducible refine Ext.trans ?_ (by assumption)) | (with_reducible assumption) | exact Below.refl _ _))⟩
end Go.Proofs.YtciodcknobccdaaDoor
