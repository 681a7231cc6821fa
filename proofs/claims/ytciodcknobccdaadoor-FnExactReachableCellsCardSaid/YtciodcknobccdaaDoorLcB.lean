/- IsValidLibrary, by the program; whether a library has a cell, by both. Conditions: the cells' parts are in memory; impl.chip holds its value. -/
import Derived.Test.YtciodcknobccdaaDoorLcA
import Derived.Defers
import Derived.Recover
import Derived.WalkSmall
namespace Go.Proofs.YtciodcknobccdaaDoor
open Go.RowKit
set_option linter.unusedVariables false
set_option linter.unusedSimpArgs false
attribute [local go_sem ↓] Go.wp_at_zero Go.wp_at_succ

/-- A validation that aborts by a panic. -/
theorem passes_f (a : Option Addr) (n c : Nat) (w : World) (hv : ∀ w1, Below w.heap.size w w1 → Calls Tryd.prog 136 #[.agg #[.slice a n c]] w1 fun e w' => e = nvE ∧ Below w1.heap.size w1 w') :
    Calls Tryd.prog 135 #[.func (.func 136) #[.agg #[.slice a n c]] #[]] w fun e w' => e = .returned (.bool false) ∧ Below w.heap.size w w' := by
  have hmf : ∀ (fn : Fn) (first cap : Array Value) (w : World), (Instr.makeFunc fn first cap).run Tryd.prog w = .ok (.func fn first cap) w := fun _ _ _ _ => rfl
  go_enter_defers Tryd.func135, Tryd.ntmps135
  go_wp2_with (first | (go_at_call 136; refine (hv _ (by (repeat (first | (with_reducible exact Below.refl _ _) | (with_reducible refine Ext.drewN ?_ _) | (with_reducible refine Below.drew ?_) | (with_reducible refine Ext.alloc ?_ _) | (with_reducible refine Ext.setCell ?_ (by simp; try omega) _) | (with_reducible refine Ext.trans ?_ (by assumption)) | (with_reducible assumption) | exact Below.refl _ _)))).mono ?_; rintro e v1 ⟨rfl, bv1⟩; obtain ⟨sv1, zv1, cv1, fv1⟩ := bcell bv1; (try simp only [World.size_alloc, World.size_setCell, World.size_drew] at sv1)))
  refine leaves_cons (f := 155) (args := #[.pointer (some ⟨w.heap.size, 0, none⟩)]) (by simp) (by simp [go_sem]) ?_
  refine (passes1_panicking w.heap.size false _ _ [] _ ?_ ?_).mono ?_
  · exact keepC bv1 (by simp [go_sem])
  · rw [bv1.frozen (p := ⟨w.heap.size, 0, none⟩) (by simp)]; simp [go_sem]
  rintro e u' w'' ⟨rfl, rfl, rfl⟩
  have hc2 : ∀ u, (v1.setCell ⟨w.heap.size, 0, none⟩ u).cell? ⟨w.heap.size, 0, none⟩ = some u := fun u => World.cell?_setCell_same _ _ _ (keepC bv1 (v := .bool false) (by simp [go_sem]))
  simp [Leaves, settle, results, Tryd.results135, go_sem, hc2]
  (repeat (first | (with_reducible exact Below.refl _ _) | (with_reducible refine Ext.drewN ?_ _) | (with_reducible refine Below.drew ?_) | (with_reducible refine Ext.alloc ?_ _) | (with_reducible refine Ext.setCell ?_ (by simp; try omega) _) | (with_reducible refine Ext.trans ?_ (by assumption)) | (with_reducible assumption) | exact Below.refl _ _))
theorem implIsValidLibrary_any (a : Option Addr) (L : List Cel) (cap : Nat) (w : World) (hCh : ChipW w) (hs : szCs L ≤ 1048576) (hL : CelsAt w.heap.size w a L) :
    Calls Tryd.prog 114 #[.agg #[.slice a L.length cap]] w fun e w' => e = .returned (.bool (libB L)) ∧ Below w.heap.size w w' := by
  have hmf : ∀ (fn : Fn) (first cap : Array Value) (w : World), (Instr.makeFunc fn first cap).run Tryd.prog w = .ok (.func fn first cap) w := fun _ _ _ _ => rfl
  have HL := Lib.hid hL
  have HCh := Lib.hid hCh
  clear hL hCh
  cases hp : libB L with
  | true =>
    go_enter Tryd.func114, Tryd.ntmps114
    go_wp2_with (first | (go_at_call 135; refine (passes_t a L.length cap _ (fun w1 h1 => (libVal_any a L cap w1 ((HCh.out.ext (by (repeat (first | (with_reducible exact Below.refl _ _) | (with_reducible refine Ext.drewN ?_ _) | (with_reducible refine Below.drew ?_) | (with_reducible refine Ext.alloc ?_ _) | (with_reducible refine Ext.setCell ?_ (by simp; try omega) _) | (with_reducible refine Ext.trans ?_ (by assumption)) | (with_reducible assumption) | exact Below.refl _ _)))).ext h1) hs ((HL.out.ext (by (repeat (first | (with_reducible exact Below.refl _ _) | (with_reducible refine Ext.drewN ?_ _) | (with_reducible refine Below.drew ?_) | (with_reducible refine Ext.alloc ?_ _) | (with_reducible refine Ext.setCell ?_ (by simp; try omega) _) | (with_reducible refine Ext.trans ?_ (by assumption)) | (with_reducible assumption) | exact Below.refl _ _)))).ext h1)).mono ?_)).mono ?_; (rintro e v1 ⟨rfl, bv1⟩; exact ⟨by rw [hp]; rfl, bv1⟩); rintro e v2 ⟨rfl, bv2⟩))
    go_ret
    exact ⟨rfl, by (repeat (first | (with_reducible exact Below.refl _ _) | (with_reducible refine Ext.drewN ?_ _) | (with_reducible refine Below.drew ?_) | (with_reducible refine Ext.alloc ?_ _) | (with_reducible refine Ext.setCell ?_ (by simp; try omega) _) | (with_reducible refine Ext.trans ?_ (by assumption)) | (with_reducible assumption) | exact Below.refl _ _))⟩
  | false =>
    go_enter Tryd.func114, Tryd.ntmps114
    go_wp2_with (first | (go_at_call 135; refine (passes_f a L.length cap _ (fun w1 h1 => (libVal_any a L cap w1 ((HCh.out.ext (by (repeat (first | (with_reducible exact Below.refl _ _) | (with_reducible refine Ext.drewN ?_ _) | (with_reducible refine Below.drew ?_) | (with_reducible refine Ext.alloc ?_ _) | (with_reducible refine Ext.setCell ?_ (by simp; try omega) _) | (with_reducible refine Ext.trans ?_ (by assumption)) | (with_reducible assumption) | exact Below.refl _ _)))).ext h1) hs ((HL.out.ext (by (repeat (first | (with_reducible exact Below.refl _ _) | (with_reducible refine Ext.drewN ?_ _) | (with_reducible refine Below.drew ?_) | (with_reducible refine Ext.alloc ?_ _) | (with_reducible refine Ext.setCell ?_ (by simp; try omega) _) | (with_reducible refine Ext.trans ?_ (by assumption)) | (with_reducible assumption) | exact Below.refl _ _)))).ext h1)).mono ?_)).mono ?_; (rintro e v1 ⟨rfl, bv1⟩; exact ⟨by rw [hp]; rfl, bv1⟩); rintro e v2 ⟨rfl, bv2⟩))
    go_ret
    exact ⟨rfl, by (repeat (first | (with_reducible exact Below.refl _ _) | (with_reducible refine Ext.drewN ?_ _) | (with_reducible refine Below.drew ?_) | (with_reducible refine Ext.alloc ?_ _) | (with_reducible refine Ext.setCell ?_ (by simp; try omega) _) | (with_reducible refine Ext.trans ?_ (by assumption)) | (with_reducible assumption) | exact Below.refl _ _))⟩
/-- Has a library a cell of this index? -/
def hasC (L : List Cel) (k : Int) : Bool := libB L && inB k 0 (L.length - 1)
theorem hasC_yes {L : List Cel} {k : Int} (h : hasC L k = true) : libB L = true ∧ 0 ≤ k ∧ k < L.length := by
  unfold hasC inB at h
  rw [Bool.and_eq_true, decide_eq_true_eq] at h
  exact ⟨h.1, h.2.1, by omega⟩
/-- Which code a library and an index get. -/
def ccV (L : List Cel) (k : Int) : Int := if libB L = true then (if inB k 0 (L.length - 1) = true then 0 else 5) else 1
theorem ccV_zero (L : List Cel) (k : Int) : decide (ccV L k = 0) = hasC L k := by
  unfold ccV hasC
  cases libB L
  · simp
  · cases inB k 0 (L.length - 1) <;> simp
theorem ccV_yes {L : List Cel} {k : Int} (h : hasC L k = true) : ccV L k = 0 := by
  have := ccV_zero L k
  rw [h] at this
  exact of_decide_eq_true this
theorem cellCode_any (a : Option Addr) (L : List Cel) (cap : Nat) (k : Int) (w : World) (hCh : ChipW w) (hs : szCs L ≤ 1048576) (hL : CelsAt w.heap.size w a L) :
    Calls Tryd.prog 79 #[.agg #[.slice a L.length cap], .int .i64 k] w fun e w' => e = .returned (.int .i64 (ccV L k)) ∧ Below w.heap.size w w' := by
  have HL := Lib.hid hL
  have HCh := Lib.hid hCh
  have hlen := sz_len hs
  have q1 : IntKind.i64.wrap (L.length : Int) = (L.length : Int) := by rw [IntKind.wrap_i64]; omega
  clear hL hCh
  cases hp : libB L with
  | false =>
    have HN : Hid (ccV L k = 1) := Lib.hid (by unfold ccV; rw [hp]; rfl)
    rw [HN.out]
    go_enter Tryd.func79, Tryd.ntmps79
    go_wp2_with (first | (go_at_call 114; refine (implIsValidLibrary_any a L cap _ (HCh.out.ext (by (repeat (first | (with_reducible exact Below.refl _ _) | (with_reducible refine Ext.drewN ?_ _) | (with_reducible refine Below.drew ?_) | (with_reducible refine Ext.alloc ?_ _) | (with_reducible refine Ext.setCell ?_ (by simp; try omega) _) | (with_reducible refine Ext.trans ?_ (by assumption)) | (with_reducible assumption) | exact Below.refl _ _)))) hs (HL.out.ext (by (repeat (first | (with_reducible exact Below.refl _ _) | (with_reducible refine Ext.drewN ?_ _) | (with_reducible refine Below.drew ?_) | (with_reducible refine Ext.alloc ?_ _) | (with_reducible refine Ext.setCell ?_ (by simp; try omega) _) | (with_reducible refine Ext.trans ?_ (by assumption)) | (with_reducible assumption) | exact Below.refl _ _))))).mono ?_; rintro e v1 ⟨rfl, bv1⟩; obtain ⟨sv1, zv1, cv1, fv1⟩ := bcell bv1; (try simp only [World.size_alloc, World.size_setCell, World.size_drew] at sv1); rw [hp]))
    go_ret
    exact ⟨rfl, by (repeat (first | (with_reducible exact Below.refl _ _) | (with_reducible refine Ext.drewN ?_ _) | (with_reducible refine Below.drew ?_) | (with_reducible refine Ext.alloc ?_ _) | (with_reducible refine Ext.setCell ?_ (by simp; try omega) _) | (with_reducible refine Ext.trans ?_ (by assumption)) | (with_reducible assumption) | exact Below.refl _ _))⟩
  | true =>
    cases hq : inB k 0 (L.length - 1) with
    | false =>
      have HN : Hid (ccV L k = 5) := Lib.hid (by unfold ccV; rw [hp, hq]; rfl)
      rw [HN.out]
      go_enter Tryd.func79, Tryd.ntmps79
      go_wp2_with (first | (go_at_call 114; refine (implIsValidLibrary_any a L cap _ (HCh.out.ext (by (repeat (first | (with_reducible exact Below.refl _ _) | (with_reducible refine Ext.drewN ?_ _) | (with_reducible refine Below.drew ?_) | (with_reducible refine Ext.alloc ?_ _) | (with_reducible refine Ext.setCell ?_ (by simp; try omega) _) | (with_reducible refine Ext.trans ?_ (by assumption)) | (with_reducible assumption) | exact Below.refl _ _)))) hs (HL.out.ext (by (repeat (first | (with_reducible exact Below.refl _ _) | (with_reducible refine Ext.drewN ?_ _) | (with_reducible refine Below.drew ?_) | (with_reducible refine Ext.alloc ?_ _) | (with_reducible refine Ext.setCell ?_ (by simp; try omega) _) | (with_reducible refine Ext.trans ?_ (by assumption)) | (with_reducible assumption) | exact Below.refl _ _))))).mono ?_; rintro e v1 ⟨rfl, bv1⟩; obtain ⟨sv1, zv1, cv1, fv1⟩ := bcell bv1; (try simp only [World.size_alloc, World.size_setCell, World.size_drew] at sv1); rw [hp]) | (go_at_call 87; refine (inRange_any _ _ _ _).mono ?_; rintro e v0 ⟨rfl, rfl⟩; rw [hq]))
      go_ret
      exact ⟨rfl, by (repeat (first | (with_reducible exact Below.refl _ _) | (with_reducible refine Ext.drewN ?_ _) | (with_reducible refine Below.drew ?_) | (with_reducible refine Ext.alloc ?_ _) | (with_reducible refine Ext.setCell ?_ (by simp; try omega) _) | (with_reducible refine Ext.trans ?_ (by assumption)) | (with_reducible assumption) | exact Below.refl _ _))⟩
    | true =>
      have HN : Hid (ccV L k = 0) := Lib.hid (by unfold ccV; rw [hp, hq]; rfl)
      rw [HN.out]
      go_enter Tryd.func79, Tryd.ntmps79
      go_wp2_with (first | (go_at_call 114; refine (implIsValidLibrary_any a L cap _ (HCh.out.ext (by (repeat (first | (with_reducible exact Below.refl _ _) | (with_reducible refine Ext.drewN ?_ _) | (with_reducible refine Below.drew ?_) | (with_reducible refine Ext.alloc ?_ _) | (with_reducible refine Ext.setCell ?_ (by simp; try omega) _) | (with_reducible refine Ext.trans ?_ (by assumption)) | (with_reducible assumption) | exact Below.refl _ _)))) hs (HL.out.ext (by (repeat (first | (with_reducible exact Below.refl _ _) | (with_reducible refine Ext.drewN ?_ _) | (with_reducible refine Below.drew ?_) | (with_reducible refine Ext.alloc ?_ _) | (with_reducible refine Ext.setCell ?_ (by simp; try omega) _) | (with_reducible refine Ext.trans ?_ (by assumption)) | (with_reducible assumption) | exact Below.refl _ _))))).mono ?_; rintro e v1 ⟨rfl, bv1⟩; obtain ⟨sv1, zv1, cv1, fv1⟩ := bcell bv1; (try simp only [World.size_alloc, World.size_setCell, World.size_drew] at sv1); rw [hp]) | (go_at_call 87; refine (inRange_any _ _ _ _).mono ?_; rintro e v0 ⟨rfl, rfl⟩; rw [hq]))
      go_ret
      exact ⟨rfl, by (repeat (first | (with_reducible exact Below.refl _ _) | (with_reducible refine Ext.drewN ?_ _) | (with_reducible refine Below.drew ?_) | (with_reducible refine Ext.alloc ?_ _) | (with_reducible refine Ext.setCell ?_ (by simp; try omega) _) | (with_reducible refine Ext.trans ?_ (by assumption)) | (with_reducible assumption) | exact Below.refl _ _))⟩
theorem hasCell_any (a : Option Addr) (L : List Cel) (cap : Nat) (k : Int) (w : World) (hCh : ChipW w) (hs : szCs L ≤ 1048576) (hL : CelsAt w.heap.size w a L) :
    Calls Tryd.prog 43 #[.agg #[.slice a L.length cap], .int .i64 k] w fun e w' => e = .returned (.bool (hasC L k)) ∧ Below w.heap.size w w' := by
  have HL := Lib.hid hL
  have HCh := Lib.hid hCh
  have HN := Lib.hid (ccV_zero L k)
  clear hL hCh
  go_enter Tryd.func43, Tryd.ntmps43
  go_wp2_with (first | (go_at_call 79; refine (cellCode_any a L cap k _ (HCh.out.ext (by (repeat (first | (with_reducible exact Below.refl _ _) | (with_reducible refine Ext.drewN ?_ _) | (with_reducible refine Below.drew ?_) | (with_reducible refine Ext.alloc ?_ _) | (with_reducible refine Ext.setCell ?_ (by simp; try omega) _) | (with_reducible refine Ext.trans ?_ (by assumption)) | (with_reducible assumption) | exact Below.refl _ _)))) hs (HL.out.ext (by (repeat (first | (with_reducible exact Below.refl _ _) | (with_reducible refine Ext.drewN ?_ _) | (with_reducible refine Below.drew ?_) | (with_reducible refine Ext.alloc ?_ _) | (with_reducible refine Ext.setCell ?_ (by simp; try omega) _) | (with_reducible refine Ext.trans ?_ (by assumption)) | (with_reducible assumption) | exact Below.refl _ _))))).mono ?_; rintro e v1 ⟨rfl, bv1⟩; obtain ⟨sv1, zv1, cv1, fv1⟩ := bcell bv1; (try simp only [World.size_alloc, World.size_setCell, World.size_drew] at sv1)))
  go_ret
  exact ⟨ret_bool (by first | exact HN.out | (rw [← HN.out]; rfl) | (rw [← HN.out]; simp)), by (repeat (first | (with_reducible exact Below.refl _ _) | (with_reducible refine Ext.drewN ?_ _) | (with_reducible refine Below.drew ?_) | (with_reducible refine Ext.alloc ?_ _) | (with_reducible refine Ext.setCell ?_ (by simp; try omega) _) | (with_reducible refine Ext.trans ?_ (by assumption)) | (with_reducible assumption) | exact Below.refl _ _))⟩
theorem l09Has_any (a : Option Addr) (L : List Cel) (cap : Nat) (k : Int) (w : World) (hs : szCs L ≤ 1048576) (hL : CelsAt w.heap.size w a L) :
    Calls Tryd.prog 63 #[.agg #[.slice a L.length cap], .int .i64 k] w fun e w' => e = .returned (.bool (hasC L k)) ∧ Below w.heap.size w w' := by
  have HL := Lib.hid hL
  have hlen := sz_len hs
  have q1 : IntKind.i64.wrap (L.length : Int) = (L.length : Int) := by rw [IntKind.wrap_i64]; omega
  clear hL
  cases hp : libB L with
  | true =>
    have HN : Hid (hasC L k = inB k 0 (L.length - 1)) := Lib.hid (by unfold hasC; rw [hp]; rfl)
    go_enter Tryd.func63, Tryd.ntmps63
    go_wp2_with (first | (go_at_call 93; refine (specIsValidLibrary_any a L cap _ hs (HL.out.ext (by (repeat (first | (with_reducible exact Below.refl _ _) | (with_reducible refine Ext.drewN ?_ _) | (with_reducible refine Below.drew ?_) | (with_reducible refine Ext.alloc ?_ _) | (with_reducible refine Ext.setCell ?_ (by simp; try omega) _) | (with_reducible refine Ext.trans ?_ (by assumption)) | (with_reducible assumption) | exact Below.refl _ _))))).mono ?_; rintro e v1 ⟨rfl, bv1⟩; obtain ⟨sv1, zv1, cv1, fv1⟩ := bcell bv1; (try simp only [World.size_alloc, World.size_setCell, World.size_drew] at sv1); rw [hp]) | (go_at_call 94; refine (l09In_any _ _ _ _).mono ?_; rintro e v0 ⟨rfl, rfl⟩))
    go_ret
    exact ⟨ret_bool (by rw [HN.out]), by (repeat (first | (with_reducible exact Below.refl _ _) | (with_reducible refine Ext.drewN ?_ _) | (with_reducible refine Below.drew ?_) | (with_reducible refine Ext.alloc ?_ _) | (with_reducible refine Ext.setCell ?_ (by simp; try omega) _) | (with_reducible refine Ext.trans ?_ (by assumption)) | (with_reducible assumption) | exact Below.refl _ _))⟩
  | false =>
    have HN : Hid (hasC L k = false) := Lib.hid (by unfold hasC; rw [hp]; rfl)
    go_enter Tryd.func63, Tryd.ntmps63
    go_wp2_with (first | (go_at_call 93; refine (specIsValidLibrary_any a L cap _ hs (HL.out.ext (by (repeat (first | (with_reducible exact Below.refl _ _) | (with_reducible refine Ext.drewN ?_ _) | (with_reducible refine Below.drew ?_) | (with_reducible refine Ext.alloc ?_ _) | (with_reducible refine Ext.setCell ?_ (by simp; try omega) _) | (with_reducible refine Ext.trans ?_ (by assumption)) | (with_reducible assumption) | exact Below.refl _ _))))).mono ?_; rintro e v1 ⟨rfl, bv1⟩; obtain ⟨sv1, zv1, cv1, fv1⟩ := bcell bv1; (try simp only [World.size_alloc, World.size_setCell, World.size_drew] at sv1); rw [hp]))
    go_ret
    exact ⟨ret_bool (by rw [HN.out]), by (repeat (first | (with_reducible exact Below.refl _ _) | (with_reducible refine Ext.drewN ?_ _) | (with_reducible refine Below.drew ?_) | (with_reducible refine Ext.alloc ?_ _) | (with_reducible refine Ext.setCell ?_ (by simp; try omega) _) | (with_reducible refine Ext.trans ?_ (by assumption)) | (with_reducible assumption) | exact Below.refl _ _))⟩
end Go.Proofs.YtciodcknobccdaaDoor
