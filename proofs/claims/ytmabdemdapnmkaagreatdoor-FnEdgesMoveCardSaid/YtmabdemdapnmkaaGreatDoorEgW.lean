/- The program's BoundaryEdges. Conditions: the rectangles' cells are in memory; the tables are in memory. -/
import Derived.Test.YtmabdemdapnmkaaGreatDoorEgV
import Derived.Test.YtmabdemdapnmkaaGreatDoorEgT
namespace Go.Proofs.YtmabdemdapnmkaaGreatDoor
open Go.RowKit Go.Shelf
set_option linter.unusedVariables false
set_option linter.unusedSimpArgs false
attribute [local go_sem ↓] Go.wp_at_zero Go.wp_at_succ

open Classical in
/-- The sorted edges of a set. -/
noncomputable def edL (f : Nat → Bool) : List R4 := if h : ∃ L, EdgesOf f L then h.choose else []
theorem edL_of {f : Nat → Bool} {L : List R4} (h : EdgesOf f L) : L = edL f := by
  have hx : ∃ L, EdgesOf f L := ⟨L, h⟩
  unfold edL
  rw [dif_pos hx]
  exact h.uniq hx.choose_spec
theorem sum_ge : ∀ L : List R4, (∀ e ∈ L, 1 ≤ lenE e) → (L.length : Int) ≤ (L.map lenE).sum
  | [], _ => by simp
  | e :: L, h => by
    have h1 := h e (by simp)
    have h2 := sum_ge L fun g hg => h g (by simp [hg])
    simp only [List.length_cons, List.map_cons, List.sum_cons]
    omega
theorem EdgesOf.len {f : Nat → Bool} {L : List R4} (h : EdgesOf f L) : L.length ≤ 25600 := by
  have h1 := sum_ge L fun e he => by
    obtain ⟨o, c, lo, hi, ho, hm, rfl⟩ := (h.2 e).1 he
    rw [lenE_mk ho hm.1]
    have := hm.1
    omega
  rw [edges_len h] at h1
  have h2 := sidesU_len f 80
  omega
theorem edL_len (f : Nat → Bool) : (edL f).length ≤ 25600 := by
  unfold edL
  split
  · rename_i h
    exact h.choose_spec.len
  · simp
/-- What BoundaryEdges answers. -/
noncomputable def beL (P Q R S : Nat → Int) (n : Nat) : List R4 := if okR P Q R S n = true then edL (covF P Q R S n) else []
theorem beL_len (P Q R S : Nat → Int) (n : Nat) : (beL P Q R S n).length ≤ 25600 := by
  unfold beL
  split
  · exact edL_len _
  · simp

set_option maxRecDepth 100000 in
set_option maxHeartbeats 4000000 in
theorem implBoundaryEdges2_any (m : Option Addr) (n cap : Nat) (P Q R S : Nat → Int) (w : World) (hn : n ≤ 1048576) (hcap : n ≤ cap) (hD : EnvW w) (hM : Mats w) (hR : RectsIs w.heap.size w m n P Q R S) :
    Calls Tryz.prog 11 #[.slice m n cap] w fun e w' => LOwn w.heap.size (beL P Q R S n) e w' ∧ (okR P Q R S n = true → EdgesOf (covF P Q R S n) (beL P Q R S n)) ∧ Below w.heap.size w w' := by
  have his := fun w' hD' hR' => isRegion_any m n cap P Q R S w' hn hcap hD' hR'
  cases hok : okR P Q R S n with
  | false =>
    have e0 : beL P Q R S n = [] := by unfold beL; rw [if_neg (by simp [hok])]
    rw [e0]
    rw [hok] at his
    clear e0
    go_enter Tryz.func11, Tryz.ntmps11
    go_wp2_with (go_at_call 43; refine (his _ (hD.ext (by (repeat (first | (with_reducible exact Below.refl _ _) | (with_reducible refine Ext.drewN ?_ _) | (with_reducible refine Below.drew ?_) | (with_reducible refine Ext.alloc ?_ _) | (with_reducible refine Ext.setCell ?_ (by simp; try omega) _) | (with_reducible refine Ext.trans ?_ (by assumption)) | (with_reducible assumption) | exact Below.refl _ _)))) (hR.ext (by (repeat (first | (with_reducible exact Below.refl _ _) | (with_reducible refine Ext.drewN ?_ _) | (with_reducible refine Below.drew ?_) | (with_reducible refine Ext.alloc ?_ _) | (with_reducible refine Ext.setCell ?_ (by simp; try omega) _) | (with_reducible refine Ext.trans ?_ (by assumption)) | (with_reducible assumption) | exact Below.refl _ _))))).mono ?_; rintro e w1 ⟨rfl, bw1⟩)
    go_ret
    exact ⟨⟨none, 0, rfl, .inl rfl⟩, fun h => by simp at h, by (repeat (first | (with_reducible exact Below.refl _ _) | (with_reducible refine Ext.drewN ?_ _) | (with_reducible refine Below.drew ?_) | (with_reducible refine Ext.alloc ?_ _) | (with_reducible refine Ext.setCell ?_ (by simp; try omega) _) | (with_reducible refine Ext.trans ?_ (by assumption)) | (with_reducible assumption) | exact Below.refl _ _))⟩
  | true =>
    have e0 : beL P Q R S n = edL (covF P Q R S n) := by unfold beL; rw [if_pos hok]
    rw [e0]
    rw [hok] at his
    clear e0
    have hbw := fun w' hD' hM' hR' => bothWays_any m n cap P Q R S w' hn hcap hD' hM' hR' hok
    go_enter Tryz.func11, Tryz.ntmps11
    go_wp2_with (first | (go_at_call 43; refine (his _ (hD.ext (by (repeat (first | (with_reducible exact Below.refl _ _) | (with_reducible refine Ext.drewN ?_ _) | (with_reducible refine Below.drew ?_) | (with_reducible refine Ext.alloc ?_ _) | (with_reducible refine Ext.setCell ?_ (by simp; try omega) _) | (with_reducible refine Ext.trans ?_ (by assumption)) | (with_reducible assumption) | exact Below.refl _ _)))) (hR.ext (by (repeat (first | (with_reducible exact Below.refl _ _) | (with_reducible refine Ext.drewN ?_ _) | (with_reducible refine Below.drew ?_) | (with_reducible refine Ext.alloc ?_ _) | (with_reducible refine Ext.setCell ?_ (by simp; try omega) _) | (with_reducible refine Ext.trans ?_ (by assumption)) | (with_reducible assumption) | exact Below.refl _ _))))).mono ?_; rintro e w1 ⟨rfl, bw1⟩) | (go_at_call 44; refine (hbw _ (hD.ext (by (repeat (first | (with_reducible exact Below.refl _ _) | (with_reducible refine Ext.drewN ?_ _) | (with_reducible refine Below.drew ?_) | (with_reducible refine Ext.alloc ?_ _) | (with_reducible refine Ext.setCell ?_ (by simp; try omega) _) | (with_reducible refine Ext.trans ?_ (by assumption)) | (with_reducible assumption) | exact Below.refl _ _)))) (hM.below (by (repeat (first | (with_reducible exact Below.refl _ _) | (with_reducible refine Ext.drewN ?_ _) | (with_reducible refine Below.drew ?_) | (with_reducible refine Ext.alloc ?_ _) | (with_reducible refine Ext.setCell ?_ (by simp; try omega) _) | (with_reducible refine Ext.trans ?_ (by assumption)) | (with_reducible assumption) | exact Below.refl _ _))) hM.size) (hR.ext (by (repeat (first | (with_reducible exact Below.refl _ _) | (with_reducible refine Ext.drewN ?_ _) | (with_reducible refine Below.drew ?_) | (with_reducible refine Ext.alloc ?_ _) | (with_reducible refine Ext.setCell ?_ (by simp; try omega) _) | (with_reducible refine Ext.trans ?_ (by assumption)) | (with_reducible assumption) | exact Below.refl _ _))))).mono ?_; rintro e w2 ⟨⟨v, L, rfl, hown, hll, hnd, hmem⟩, bw2⟩) | (go_at_call 46; refine (sortEdges_any _ v L _ hown hnd (by omega)).mono ?_; rintro e w3 ⟨rfl, bw3, L', hlen', hp, hm', hown'⟩))
    go_ret
    obtain ⟨a, c, rfl, hc, hO⟩ := own_edges hown'
    have hE0 : EdgesOf (covF P Q R S n) L' := ⟨hp, fun g => (hm' g).trans (hmem g)⟩
    have hE : L' = edL (covF P Q R S n) := edL_of hE0
    subst hE
    exact ⟨⟨a, c, rfl, hO.mono (by have := bw1.size; omega)⟩, fun _ => hE0, (Ext.trans bw1 bw2).trans (bw3.mono (by have := bw1.size; omega))⟩
theorem implBoundaryEdges_any (m : Option Addr) (n cap : Nat) (P Q R S : Nat → Int) (w : World) (hn : n ≤ 1048576) (hcap : n ≤ cap) (hD : EnvW w) (hM : Mats w) (hR : RectsIs w.heap.size w m n P Q R S) :
    Calls Tryz.prog 11 #[.slice m n cap] w fun e w' => LOwn w.heap.size (beL P Q R S n) e w' ∧ Below w.heap.size w w' :=
  (implBoundaryEdges2_any m n cap P Q R S w hn hcap hD hM hR).mono fun e w' h => ⟨h.1, h.2.2⟩
end Go.Proofs.YtmabdemdapnmkaaGreatDoor
