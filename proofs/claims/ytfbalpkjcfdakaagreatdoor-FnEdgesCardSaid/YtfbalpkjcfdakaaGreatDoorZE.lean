/- The edges of a set and of its mirror image. No program's run in it. -/
import Derived.Test.YtfbalpkjcfdakaaGreatDoorZC
import Derived.Test.YtfbalpkjcfdakaaGreatDoorQS
import Derived.Test.YtfbalpkjcfdakaaGreatDoorZA
import Derived.Test.YtfbalpkjcfdakaaGreatDoorShelf
import Derived.Test.YtfbalpkjcfdakaaGreatDoorQX
import Derived.Maps.AppendAt
import Derived.Test.YtfbalpkjcfdakaaGreatDoorQD
namespace Go.Proofs.YtfbalpkjcfdakaaGreatDoor
open Go.RowKit
set_option linter.unusedVariables false
set_option linter.unusedSimpArgs false

/-- The mirror image's flags. -/
def trF (P Q R S : Nat → Int) (n : Nat) : Nat → Bool := imF 5 0 0 P Q R S n
theorem im5 {a b c d : Int} (h : rvB a b c d = true) : mr0 5 0 0 a b c d = b ∧ mr1 5 0 0 a b c d = a ∧ mr2 5 0 0 a b c d = d ∧ mr3 5 0 0 a b c d = c := by
  have h1 := rvB_t h
  simp only [mr0, mr1, mr2, mr3, mvX, mvY, tX, tY, lo2, hi2]
  simp only [show ¬ ((5 : Int) = 0) by decide, show ¬ ((5 : Int) = 1) by decide, show ¬ ((5 : Int) = 2) by decide, show ¬ ((5 : Int) = 3) by decide, show ¬ ((5 : Int) = 4) by decide, if_false, if_true]
  refine ⟨?_, ?_, ?_, ?_⟩ <;> (split <;> omega)
theorem im5_valid {P Q R S : Nat → Int} {n : Nat} (hok : okR P Q R S n = true) : imV 5 0 0 P Q R S n = true := by
  unfold imV allV
  rw [List.all_eq_true]
  intro i hi
  rw [List.mem_range] at hi
  have h := okR_all hok i hi
  obtain ⟨e0, e1, e2, e3⟩ := im5 h
  have h1 := rvB_t h
  unfold imA imB imC imD
  rw [e0, e1, e2, e3]
  exact rvB_mk (by omega)
theorem mg5 {P Q R S : Nat → Int} {n : Nat} (hok : okR P Q R S n = true) : mgB 5 0 0 P Q R S n = true ∧ mgL 5 0 0 P Q R S n = canonL (trF P Q R S n) := by
  have h := mgL_of (o := 5) (x := 0) (y := 0) (b := true) (by decide) hok (im5_valid hok)
  exact ⟨h.1, h.2.trans (if_pos rfl)⟩
theorem trF_has {P Q R S : Nat → Int} {n : Nat} (hok : okR P Q R S n = true) (x y : Int) : hasB (trF P Q R S n) x y = hasB (covF P Q R S n) y x := by
  by_cases h : (-40 ≤ x ∧ x ≤ 39) ∧ (-40 ≤ y ∧ y ≤ 39)
  · rw [hasB_in h, hasB_in ⟨h.2, h.1⟩]
    unfold trF imF
    rw [covF_at _ _ _ _ _ h.1.1 h.1.2 h.2.1 h.2.2, covF_at _ _ _ _ _ h.2.1 h.2.2 h.1.1 h.1.2, Bool.eq_iff_iff, covB_t, covB_t]
    constructor
    · rintro ⟨i, hi, h1⟩
      obtain ⟨e0, e1, e2, e3⟩ := im5 (okR_all hok i hi)
      unfold imA imB imC imD at h1
      rw [e0, e1, e2, e3] at h1
      exact ⟨i, hi, h1.2.2.1, h1.2.2.2, h1.1, h1.2.1⟩
    · rintro ⟨i, hi, h1⟩
      obtain ⟨e0, e1, e2, e3⟩ := im5 (okR_all hok i hi)
      refine ⟨i, hi, ?_⟩
      unfold imA imB imC imD
      rw [e0, e1, e2, e3]
      exact ⟨h1.2.2.1, h1.2.2.2, h1.1, h1.2.1⟩
  · rw [hasB_out h, hasB_out fun h' => h ⟨h'.2, h'.1⟩]
/-- The flags that the mirror image's rectangles cover. -/
def trC (P Q R S : Nat → Int) (n : Nat) : Nat → Bool := covF (pA (mgL 5 0 0 P Q R S n)) (pB (mgL 5 0 0 P Q R S n)) (pC (mgL 5 0 0 P Q R S n)) (pD (mgL 5 0 0 P Q R S n)) (mgL 5 0 0 P Q R S n).length
theorem trC_ok {P Q R S : Nat → Int} {n : Nat} (hok : okR P Q R S n = true) : okR (pA (mgL 5 0 0 P Q R S n)) (pB (mgL 5 0 0 P Q R S n)) (pC (mgL 5 0 0 P Q R S n)) (pD (mgL 5 0 0 P Q R S n)) (mgL 5 0 0 P Q R S n).length = true := by
  rw [(mg5 hok).2]
  exact okR_canonL _
theorem trC_has {P Q R S : Nat → Int} {n : Nat} (hok : okR P Q R S n = true) (x y : Int) : hasB (trC P Q R S n) x y = hasB (covF P Q R S n) y x := by
  rw [← trF_has hok]
  unfold trC
  rw [(mg5 hok).2]
  exact hasB_congr (fun k hk => cov_canonL_all _ hk) x y
theorem trC_gS {P Q R S : Nat → Int} {n : Nat} (hok : okR P Q R S n = true) : gS (trC P Q R S n) 2 = gS (covF P Q R S n) 1 ∧ gS (trC P Q R S n) 3 = gS (covF P Q R S n) 0 := by
  constructor <;> (funext c t; simp only [gS, trC_has hok])
/-- The mirror image of an edge. -/
def mirE (e : R4) : R4 := ⟨e.d, e.c, e.b, e.a⟩
theorem mirE_inj {e g : R4} (h : mirE e = mirE g) : e = g := by
  cases e; cases g
  simp only [mirE, R4.mk.injEq] at h
  obtain ⟨h1, h2, h3, h4⟩ := h
  subst h1 h2 h3 h4
  rfl
theorem mirE_2 (c lo hi : Int) : mirE (mkE 2 c lo hi) = mkE 1 c lo hi := rfl
theorem mirE_3 (c lo hi : Int) : mirE (mkE 3 c lo hi) = mkE 0 c lo hi := rfl
/-- Upright edges, and the mirror images of the mirror image's. -/
theorem edges_both {P Q R S : Nat → Int} {n : Nat} (hok : okR P Q R S n = true) {L L' : List R4} (h1 : L.Nodup) (h2 : ∀ g, g ∈ L ↔ VertE (covF P Q R S n) g) (k1 : L'.Nodup) (k2 : ∀ g, g ∈ L' ↔ VertE (trC P Q R S n) g) :
    (L ++ L'.map mirE).Nodup ∧ ∀ g, g ∈ L ++ L'.map mirE ↔ IsEdge (covF P Q R S n) g := by
  obtain ⟨g2, g3⟩ := trC_gS hok
  have hm : ∀ g, g ∈ L'.map mirE ↔ ∃ (o : Nat) (c lo hi : Int), (o = 0 ∨ o = 1) ∧ MaxI (gS (covF P Q R S n) o c) lo hi ∧ g = mkE o c lo hi := fun g => by
    rw [List.mem_map]
    constructor
    · rintro ⟨e, he, rfl⟩
      obtain ⟨o, c, lo, hi, ho, hmx, rfl⟩ := (k2 e).1 he
      rcases ho with rfl | rfl
      · rw [g2] at hmx
        exact ⟨1, c, lo, hi, .inr rfl, hmx, rfl⟩
      · rw [g3] at hmx
        exact ⟨0, c, lo, hi, .inl rfl, hmx, rfl⟩
    · rintro ⟨o, c, lo, hi, ho, hmx, rfl⟩
      rcases ho with rfl | rfl
      · rw [← g3] at hmx
        exact ⟨mkE 3 c lo hi, (k2 _).2 ⟨3, c, lo, hi, .inr rfl, hmx, rfl⟩, rfl⟩
      · rw [← g2] at hmx
        exact ⟨mkE 2 c lo hi, (k2 _).2 ⟨2, c, lo, hi, .inl rfl, hmx, rfl⟩, rfl⟩
  constructor
  · rw [List.nodup_append]
    refine ⟨h1, ?_, fun a ha b hb e => ?_⟩
    · rw [List.Nodup, List.pairwise_map]
      exact k1.imp fun {a b} hne he => hne (mirE_inj he)
    · subst e
      obtain ⟨o, c, lo, hi, ho, hmx, e1⟩ := (h2 a).1 ha
      obtain ⟨o', c', lo', hi', ho', hmx', e2⟩ := (hm a).1 hb
      have := (mkE_inj (by omega) (by omega) hmx.1 hmx'.1 (e1.symm.trans e2)).1
      omega
  · intro g
    rw [List.mem_append, h2, hm]
    constructor
    · rintro (⟨o, c, lo, hi, ho, hmx, e⟩ | ⟨o, c, lo, hi, ho, hmx, e⟩)
      · exact ⟨o, c, lo, hi, by omega, hmx, e⟩
      · exact ⟨o, c, lo, hi, by omega, hmx, e⟩
    · rintro ⟨o, c, lo, hi, ho, hmx, e⟩
      rcases o4 ho with h | h | h | h
      · exact .inr ⟨o, c, lo, hi, .inl h, hmx, e⟩
      · exact .inr ⟨o, c, lo, hi, .inr h, hmx, e⟩
      · exact .inl ⟨o, c, lo, hi, .inl h, hmx, e⟩
      · exact .inl ⟨o, c, lo, hi, .inr h, hmx, e⟩
end Go.Proofs.YtfbalpkjcfdakaaGreatDoor

namespace Go.Proofs.YtfbalpkjcfdakaaGreatDoor
open Go.RowKit Go.Shelf Go.Lib
open Go.Sort (SWO grow flatK size_flatK get_flatK HoldsK putRowK)
set_option linter.unusedVariables false
set_option linter.unusedSimpArgs false
attribute [local go_sem ↓] Go.wp_at_zero Go.wp_at_succ

def Gr (w w' : World) : Prop := ∃ (q : Nat) (os : Array Obj), w' = grow (w.drewN q) os
theorem Gr.of {w w' : World} (h : Below w.heap.size w w') (hd : w.drawn ≤ w'.drawn) : Gr w w' := by
  refine ⟨w'.drawn - w.drawn, w'.heap.extract w.heap.size w'.heap.size, ?_⟩
  have hh : w'.heap = w.heap ++ w'.heap.extract w.heap.size w'.heap.size := by
    apply Array.ext_getElem?
    intro i
    rw [Array.getElem?_append]
    split
    · rename_i hi
      exact h.block i hi
    · rw [Array.getElem?_extract]
      have hs := h.size
      split
      · congr 1; omega
      · rw [Array.getElem?_eq_none_iff]; omega
  have h1 := h.os
  have h2 := h.tape
  have h3 := h.output
  obtain ⟨hp, tp, dr, os, out⟩ := w
  obtain ⟨hp', tp', dr', os', out'⟩ := w'
  simp only at h1 h2 h3 hh hd
  subst h1 h2 h3
  show _ = ({ heap := hp ++ _, tape := tp', drawn := dr + (dr' - dr), os := os', output := out' } : World)
  rw [Nat.add_sub_cancel' hd, ← hh]
theorem dr_alloc (w : World) (o : Obj) : (w.alloc o).drawn = w.drawn := rfl
theorem dr_drew (w : World) : w.drew.drawn = w.drawn + 1 := rfl
theorem dr_set (w : World) (a : Addr) (v : Value) : (w.setCell a v).drawn = w.drawn := rfl

def cmpI (x y : Int) : Int := if x < y then -1 else if y < x then 1 else 0
def orV (x y z u : Int) : Int := if x ≠ 0 then x else if y ≠ 0 then y else if z ≠ 0 then z else u
theorem cmpI_ne {x y : Int} (h : x ≠ y) : cmpI x y ≠ 0 := by
  unfold cmpI; by_cases h1 : x < y
  · rw [if_pos h1]; omega
  · rw [if_neg h1, if_pos (by omega)]; omega
theorem cmpI_eq (x : Int) : cmpI x x = 0 := by unfold cmpI; rw [if_neg (by omega), if_neg (by omega)]
theorem cmpI_lt {x y : Int} : cmpI x y < 0 ↔ x < y := by
  unfold cmpI; by_cases h1 : x < y
  · rw [if_pos h1]; omega
  · rw [if_neg h1]; by_cases h2 : y < x
    · rw [if_pos h2]; omega
    · rw [if_neg h2]; omega
/-- Less by y0, then x0, then y1, then x1. -/
def cmpE (p q : R4) : Int := orV (cmpI p.b q.b) (cmpI p.a q.a) (cmpI p.d q.d) (cmpI p.c q.c)
theorem cmpE_lt (p q : R4) : cmpE p q < 0 ↔ p.b < q.b ∨ (p.b = q.b ∧ (p.a < q.a ∨ (p.a = q.a ∧ (p.d < q.d ∨ (p.d = q.d ∧ p.c < q.c))))) := by
  unfold cmpE orV
  by_cases h1 : p.b = q.b
  · rw [h1, cmpI_eq, if_neg (by simp)]
    by_cases h2 : p.a = q.a
    · rw [h2, cmpI_eq, if_neg (by simp)]
      by_cases h3 : p.d = q.d
      · rw [h3, cmpI_eq, if_neg (by simp), cmpI_lt]; omega
      · rw [if_pos (cmpI_ne h3), cmpI_lt]; omega
    · rw [if_pos (cmpI_ne h2), cmpI_lt]; omega
  · rw [if_pos (cmpI_ne h1), cmpI_lt]; omega

theorem isNaN_any (x : Int) (w : World) : Calls Tryz.prog 191 #[.int .i64 x] w fun e w' => e = .returned (.bool false) ∧ w = w' := by
  go_enter Tryz.func191, Tryz.ntmps191
  go_wp2_with fail
  go_ret
  exact ⟨ret_bool (by simp), rfl⟩
theorem compare_any (x y : Int) (w : World) : Calls Tryz.prog 162 #[.int .i64 x, .int .i64 y] w fun e w' => e = .returned (.int .i64 (cmpI x y)) ∧ Below w.heap.size w w' ∧ w.drawn ≤ w'.drawn := by
  have key : x < y ∨ (¬ x < y ∧ y < x) ∨ (¬ x < y ∧ ¬ y < x) := by omega
  rcases key with h1 | ⟨h1, h2⟩ | ⟨h1, h2⟩
  all_goals
    go_enter Tryz.func162, Tryz.ntmps162
    go_wp2_with (go_at_call 191; go_call isNaN_any as e w' ⟨rfl, rfl⟩)
    go_ret
    exact ⟨ret_int (by unfold cmpI; (repeat' split) <;> omega), by (repeat (first | (with_reducible exact Below.refl _ _) | (with_reducible refine Ext.drewN ?_ _) | (with_reducible refine Below.drew ?_) | (with_reducible refine Ext.alloc ?_ _) | (with_reducible refine Ext.setCell ?_ (by simp; try omega) _) | (with_reducible refine Ext.trans ?_ (by assumption)) | (with_reducible assumption) | exact Below.refl _ _)), (by first | exact Nat.le_refl _ | (simp; done) | (simp; omega) | omega)⟩

set_option maxHeartbeats 4000000 in
theorem or4_any (g : Nat) (x y z u : Int) (cap : Nat) (w : World) (h0 : w.cell? ⟨g, 0, none⟩ = some (.int .i64 x)) (h1 : w.cell? ⟨g, 1, none⟩ = some (.int .i64 y)) (h2 : w.cell? ⟨g, 2, none⟩ = some (.int .i64 z)) (h3 : w.cell? ⟨g, 3, none⟩ = some (.int .i64 u)) :
    Calls Tryz.prog 133 #[.slice (some ⟨g, 0, none⟩) 4 cap] w fun e w' => e = .returned (.int .i64 (orV x y z u)) ∧ Below w.heap.size w w' ∧ w.drawn ≤ w'.drawn := by
  by_cases k0 : x = 0
  · by_cases k1 : y = 0
    · by_cases k2 : z = 0
      · by_cases k3 : u = 0
        all_goals
          subst k0 k1 k2
          go_enter Tryz.func133, Tryz.ntmps133
          go_wp2_with fail
          go_rounds 5
          go_ret
          exact ⟨ret_int (by simp [orV, k3]), by (repeat (first | (with_reducible exact Below.refl _ _) | (with_reducible refine Ext.drewN ?_ _) | (with_reducible refine Below.drew ?_) | (with_reducible refine Ext.alloc ?_ _) | (with_reducible refine Ext.setCell ?_ (by simp; try omega) _) | (with_reducible refine Ext.trans ?_ (by assumption)) | (with_reducible assumption) | exact Below.refl _ _)), (by first | exact Nat.le_refl _ | (simp; done) | (simp; omega) | omega)⟩
      · subst k0 k1
        go_enter Tryz.func133, Tryz.ntmps133
        go_wp2_with fail
        go_rounds 3
        go_ret
        exact ⟨ret_int (by simp [orV, k2]), by (repeat (first | (with_reducible exact Below.refl _ _) | (with_reducible refine Ext.drewN ?_ _) | (with_reducible refine Below.drew ?_) | (with_reducible refine Ext.alloc ?_ _) | (with_reducible refine Ext.setCell ?_ (by simp; try omega) _) | (with_reducible refine Ext.trans ?_ (by assumption)) | (with_reducible assumption) | exact Below.refl _ _)), (by first | exact Nat.le_refl _ | (simp; done) | (simp; omega) | omega)⟩
    · subst k0
      go_enter Tryz.func133, Tryz.ntmps133
      go_wp2_with fail
      go_rounds 2
      go_ret
      exact ⟨ret_int (by simp [orV, k1]), by (repeat (first | (with_reducible exact Below.refl _ _) | (with_reducible refine Ext.drewN ?_ _) | (with_reducible refine Below.drew ?_) | (with_reducible refine Ext.alloc ?_ _) | (with_reducible refine Ext.setCell ?_ (by simp; try omega) _) | (with_reducible refine Ext.trans ?_ (by assumption)) | (with_reducible assumption) | exact Below.refl _ _)), (by first | exact Nat.le_refl _ | (simp; done) | (simp; omega) | omega)⟩
  · go_enter Tryz.func133, Tryz.ntmps133
    go_wp2_with fail
    go_rounds 1
    go_ret
    exact ⟨ret_int (by simp [orV, k0]), by (repeat (first | (with_reducible exact Below.refl _ _) | (with_reducible refine Ext.drewN ?_ _) | (with_reducible refine Below.drew ?_) | (with_reducible refine Ext.alloc ?_ _) | (with_reducible refine Ext.setCell ?_ (by simp; try omega) _) | (with_reducible refine Ext.trans ?_ (by assumption)) | (with_reducible assumption) | exact Below.refl _ _)), (by first | exact Nat.le_refl _ | (simp; done) | (simp; omega) | omega)⟩

set_option maxHeartbeats 8000000 in
theorem cmpR_any (a b c d p q r s : Int) (w : World) : Calls Tryz.prog 125 #[.agg #[.int .i64 a, .int .i64 b, .int .i64 c, .int .i64 d], .agg #[.int .i64 p, .int .i64 q, .int .i64 r, .int .i64 s]] w fun e w' => e = .returned (.int .i64 (cmpE ⟨a, b, c, d⟩ ⟨p, q, r, s⟩)) ∧ Below w.heap.size w w' ∧ w.drawn ≤ w'.drawn := by
  show Calls _ _ _ _ fun e w' => e = .returned (.int .i64 (orV (cmpI b q) (cmpI a p) (cmpI d s) (cmpI c r))) ∧ Below w.heap.size w w' ∧ w.drawn ≤ w'.drawn
  go_enter Tryz.func125, Tryz.ntmps125
  go_wp2_with fail
  go_region_held3 (fun w' => w.heap.size + 1 < w'.heap.size ∧ w.drawn ≤ w'.drawn ∧ Below w.heap.size w w' ∧ w'.cell? ⟨w.heap.size, 0, none⟩ = some (.int .i64 a) ∧ w'.cell? ⟨w.heap.size, 1, none⟩ = some (.int .i64 b) ∧ w'.cell? ⟨w.heap.size, 2, none⟩ = some (.int .i64 c) ∧ w'.cell? ⟨w.heap.size, 3, none⟩ = some (.int .i64 d) ∧ w'.cell? ⟨w.heap.size + 1, 0, none⟩ = some (.int .i64 p) ∧ w'.cell? ⟨w.heap.size + 1, 1, none⟩ = some (.int .i64 q) ∧ w'.cell? ⟨w.heap.size + 1, 2, none⟩ = some (.int .i64 r) ∧ w'.cell? ⟨w.heap.size + 1, 3, none⟩ = some (.int .i64 s))
    (first | ((try simp only [World.drawn_alloc, World.drawn_drew, World.drawn_setCell]); omega) | (first | ((try dsimp only); go_split_ands; (repeat' (with_reducible refine And.intro ?_ ?_)) <;> first | ((repeat (with_reducible refine keepS ?_ (by simp; try omega) _)); (first | (with_reducible assumption) | (with_reducible exact keepC (by assumption) (by assumption)) | (with_reducible exact keepA (by assumption) _) | (with_reducible exact keepR (by assumption) (by omega) _))) | ((try simp only [World.size_alloc, World.size_setCell, World.size_drew]); omega) | (refine Mats.below hM ?_ hM.size; (repeat (first | (with_reducible exact Below.refl _ _) | (with_reducible refine Ext.drewN ?_ _) | (with_reducible refine Below.drew ?_) | (with_reducible refine Ext.alloc ?_ _) | (with_reducible refine Ext.setCell ?_ (by simp; try omega) _) | (with_reducible refine Ext.trans ?_ (by assumption)) | (with_reducible assumption) | exact Below.refl _ _)); done) | ((repeat (first | (with_reducible exact Below.refl _ _) | (with_reducible refine Ext.drewN ?_ _) | (with_reducible refine Below.drew ?_) | (with_reducible refine Ext.alloc ?_ _) | (with_reducible refine Ext.setCell ?_ (by simp; try omega) _) | (with_reducible refine Ext.trans ?_ (by assumption)) | (with_reducible assumption) | exact Below.refl _ _)); done) | (go_keep; done))))
    (first | (go_at_call_of 162 (Value.int .i64 b); refine (compare_any b q _).mono ?_; rintro e v0 ⟨rfl, bv0, dv0⟩; obtain ⟨sv0, zv0, cv0, fv0⟩ := bcell bv0; (try simp only [World.size_alloc, World.size_setCell, World.size_drew] at sv0); (try simp only [World.drawn_alloc, World.drawn_drew, World.drawn_setCell] at dv0)) | (go_at_call_of 162 (Value.int .i64 a); refine (compare_any a p _).mono ?_; rintro e v1 ⟨rfl, bv1, dv1⟩; obtain ⟨sv1, zv1, cv1, fv1⟩ := bcell bv1; (try simp only [World.size_alloc, World.size_setCell, World.size_drew] at sv1); (try simp only [World.drawn_alloc, World.drawn_drew, World.drawn_setCell] at dv1)) | (go_at_call_of 162 (Value.int .i64 d); refine (compare_any d s _).mono ?_; rintro e v2 ⟨rfl, bv2, dv2⟩; obtain ⟨sv2, zv2, cv2, fv2⟩ := bcell bv2; (try simp only [World.size_alloc, World.size_setCell, World.size_drew] at sv2); (try simp only [World.drawn_alloc, World.drawn_drew, World.drawn_setCell] at dv2)) | (go_at_call_of 162 (Value.int .i64 c); refine (compare_any c r _).mono ?_; rintro e v3 ⟨rfl, bv3, dv3⟩; obtain ⟨sv3, zv3, cv3, fv3⟩ := bcell bv3; (try simp only [World.size_alloc, World.size_setCell, World.size_drew] at sv3); (try simp only [World.drawn_alloc, World.drawn_drew, World.drawn_setCell] at dv3)) | (go_at_call 133; refine (or4_any _ (cmpI b q) (cmpI a p) (cmpI d s) (cmpI c r) _ _ (by simp [go_sem]) (by simp [go_sem]) (by simp [go_sem]) (by simp [go_sem])).mono ?_; rintro e v4 ⟨rfl, bv4, dv4⟩; obtain ⟨sv4, zv4, cv4, fv4⟩ := bcell bv4; (try simp only [World.size_alloc, World.size_setCell, World.size_drew] at sv4); (try simp only [World.drawn_alloc, World.drawn_drew, World.drawn_setCell] at dv4)))
  all_goals
    go_split_ands
    go_wp2_with fail
    go_ret
    exact ⟨rfl, by (repeat (first | (with_reducible exact Below.refl _ _) | (with_reducible refine Ext.drewN ?_ _) | (with_reducible refine Below.drew ?_) | (with_reducible refine Ext.alloc ?_ _) | (with_reducible refine Ext.setCell ?_ (by simp; try omega) _) | (with_reducible refine Ext.trans ?_ (by assumption)) | (with_reducible assumption) | exact Below.refl _ _)), (by first | exact Nat.le_refl _ | (simp; done) | (simp; omega) | omega)⟩

theorem cmpEdge_any (a b c d p q r s : Int) (w : World) : Calls Tryz.prog 77 #[.agg #[.int .i64 a, .int .i64 b, .int .i64 c, .int .i64 d], .agg #[.int .i64 p, .int .i64 q, .int .i64 r, .int .i64 s]] w fun e w' => e = .returned (.int .i64 (cmpE ⟨a, b, c, d⟩ ⟨p, q, r, s⟩)) ∧ Below w.heap.size w w' ∧ w.drawn ≤ w'.drawn := by
  obtain ⟨v, hv⟩ : ∃ v, v = cmpE ⟨a, b, c, d⟩ ⟨p, q, r, s⟩ := ⟨_, rfl⟩
  have hc := fun w => cmpR_any a b c d p q r s w
  rw [← hv] at hc ⊢
  clear hv
  go_enter Tryz.func77, Tryz.ntmps77
  go_wp2_with (go_at_call 125; refine (hc _).mono ?_; rintro e v1 ⟨rfl, bv1, dv1⟩; obtain ⟨sv1, zv1, cv1, fv1⟩ := bcell bv1; (try simp only [World.size_alloc, World.size_setCell, World.size_drew] at sv1); (try simp only [World.drawn_alloc, World.drawn_drew, World.drawn_setCell] at dv1))
  go_ret
  exact ⟨rfl, by (repeat (first | (with_reducible exact Below.refl _ _) | (with_reducible refine Ext.drewN ?_ _) | (with_reducible refine Below.drew ?_) | (with_reducible refine Ext.alloc ?_ _) | (with_reducible refine Ext.setCell ?_ (by simp; try omega) _) | (with_reducible refine Ext.trans ?_ (by assumption)) | (with_reducible assumption) | exact Below.refl _ _)), (by first | exact Nat.le_refl _ | (simp; done) | (simp; omega) | omega)⟩

instance : Inhabited R4 := ⟨⟨0, 0, 0, 0⟩⟩
theorem ltOf_iff (e g : R4) : ltOf cmpE e g = true ↔ ltE e g := by
  unfold ltOf ltE
  rw [decide_eq_true_eq, cmpE_lt]
theorem ltOf_not (e g : R4) : ltOf cmpE e g = false ↔ ¬ ltE e g := by
  rw [← ltOf_iff, Bool.not_eq_true]
theorem swoE : SWO (ltOf cmpE) := by
  refine ⟨fun x => ?_, fun x y z h1 h2 => ?_, fun x y z h1 h2 => ?_⟩
  · rw [ltOf_not]; exact ltE_irr x
  · rw [ltOf_iff] at *; exact ltE_trans h1 h2
  · rw [ltOf_not] at *
    unfold ltE at *
    omega
theorem cmpLaysE (blk off size : Nat) (w : World) : CmpLays Tryz.prog 77 #[] r4cells 4 cmpE blk off size w := by
  intro m os dk hs x y
  refine (cmpEdge_any x.a x.b x.c x.d y.a y.b y.c y.d _).mono ?_
  rintro e w' ⟨rfl, hb, hd⟩
  exact ⟨rfl, Gr.of hb hd⟩

theorem flat_rec (L : List R4) : flatK r4cells 4 L.toArray = (recCells L).toArray := by
  apply Array.ext_getElem?
  intro t
  by_cases ht : t < L.length * 4
  · have hq : t / 4 < L.length := by omega
    obtain ⟨c0, c1, c2, c3⟩ := recCells_at L (t / 4) L[t / 4] (List.getElem?_eq_getElem hq)
    have hL : t < (flatK r4cells 4 L.toArray).size := by rw [size_flatK]; simpa using ht
    rw [Array.getElem?_eq_getElem hL, ← getElem!_pos (flatK r4cells 4 L.toArray) t hL, get_flatK _ _ _ _ (by simpa using ht), List.getElem?_toArray]
    have e : L.toArray[t / 4]! = L[t / 4] := by simp [hq]
    rw [e]
    have h4 : t % 4 = 0 ∨ t % 4 = 1 ∨ t % 4 = 2 ∨ t % 4 = 3 := by omega
    rcases h4 with h | h | h | h
    · have h9 : t / 4 * 4 = t := by omega
      rw [h]; rw [h9] at c0; rw [c0]; rfl
    · have h9 : t / 4 * 4 + 1 = t := by omega
      rw [h]; rw [h9] at c1; rw [c1]; rfl
    · have h9 : t / 4 * 4 + 2 = t := by omega
      rw [h]; rw [h9] at c2; rw [c2]; rfl
    · have h9 : t / 4 * 4 + 3 = t := by omega
      rw [h]; rw [h9] at c3; rw [c3]; rfl
  · rw [Array.getElem?_eq_none (by rw [size_flatK]; simp; omega), Array.getElem?_eq_none (by simp [recCells_len]; omega)]

theorem sorted_edges (L : List R4) (hn : L.Nodup) : (L.mergeSort fun x y => !(ltOf cmpE) y x).Pairwise ltE := by
  have h1 : (L.mergeSort fun x y => !(ltOf cmpE) y x).Pairwise (fun x y => (!(ltOf cmpE) y x) = true) := by
    refine List.pairwise_mergeSort ?_ ?_ _
    · intro a b c h1 h2
      simp only [Bool.not_eq_true'] at *
      exact swoE.ntrans _ _ _ h2 h1
    · intro a b
      simp only [Bool.or_eq_true, Bool.not_eq_true', ltOf_not]
      by_cases h : ltE b a
      · exact .inr fun h' => ltE_irr _ (ltE_trans h h')
      · exact .inl h
  have h2 : (L.mergeSort fun x y => !(ltOf cmpE) y x).Nodup := (List.mergeSort_perm _ _).symm.nodup hn
  refine (List.pairwise_and_iff.2 ⟨h1, h2⟩).imp ?_
  rintro a b ⟨h, hne⟩
  rw [Bool.not_eq_true', ltOf_not] at h
  exact ltE_tot h (Ne.symm hne)

theorem sortEdges_any (base : Nat) (v : Value) (L : List R4) (w : World) (hv : w.ownsRow base 55 4 v L.length (recCells L)) (hn : L.Nodup) (hl : L.length ≤ 1048576) :
    Calls Tryz.prog 76 #[v, .func (.func 77) #[] #[]] w fun e w' => e = .returned (.tuple #[]) ∧ Below base w w' ∧ ∃ L' : List R4, L'.length = L.length ∧ L'.Pairwise ltE ∧ (∀ e, e ∈ L' ↔ e ∈ L) ∧ w'.ownsRow base 55 4 v L'.length (recCells L') := by
  obtain ⟨hc, ⟨rfl, h0⟩ | ⟨g, cap, cur, rfl, hg, hcell, h1, h2, h3, h4⟩⟩ := hv
  · have : L = [] := List.eq_nil_of_length_eq_zero h0
    subst this
    refine (Tryz.slices_SortFunc_none_f76 (α := R4) none 0 _ w).mono ?_
    rintro e w' ⟨rfl, rfl⟩
    exact ⟨rfl, Below.refl _ _, [], rfl, .nil, fun e => Iff.rfl, rfl, .inl ⟨rfl, rfl⟩⟩
  · have hgl : g < w.heap.size := (Array.getElem?_eq_some_iff.1 hcell).1
    have hH : HoldsK r4cells 4 w g 0 L.toArray := by
      intro j hj
      rw [flat_rec] at hj ⊢
      have hj2 : j < (recCells L).length := by simpa using hj
      have hj3 : j < L.length * 4 := by rw [← hc]; exact hj2
      have hcur : cur[j]? = some (recCells L)[j] := by
        rw [← Array.getElem?_toList, ← List.getElem?_eq_getElem hj2]
        conv => rhs; rw [← h4]
        rw [List.getElem?_take_of_lt hj3]
      constructor
      · show w.cell? ⟨g, 0 + j, none⟩ = some (id (recCells L).toArray[j]!)
        rw [Nat.zero_add]
        unfold World.cell?
        simp only [hcell, hcur]
        simp [hj2]
      · show w.frozen? ⟨g, 0 + j, none⟩ = false
        unfold World.frozen?
        simp only [hcell]
        simp
    have hcall := Tryz.slices_SortFunc_total_f76 (α := R4) 4 (fun w => by kernel_rfl) (fun w => by kernel_rfl) r4cells (fun x => rfl) (fun x v hv => by simp [r4cells] at hv; rcases hv with rfl | rfl | rfl | rfl <;> rfl) cmpE swoE 77 #[] g 0 cap L.toArray w (enters_of Tryz.func77 (by kernel_rfl) rfl) (cmpLaysE _ _ _ _) hH hgl (by simp; omega) (fun x y h1 h2 => by
      rw [ltOf_not] at h1 h2
      by_cases e : x = y
      · exact e
      · exact absurd (ltE_tot h1 e) h2)
    rw [List.size_toArray] at hcall
    refine hcall.mono ?_
    rintro e w' ⟨rfl, n, os, rfl⟩
    obtain ⟨L', hL'⟩ : ∃ L', L' = L.toArray.toList.mergeSort (fun x y => !(ltOf cmpE) y x) := ⟨_, rfl⟩
    rw [← hL']
    have hlen : L'.length = L.length := by rw [hL', List.length_mergeSort]
    have hp : L'.Pairwise ltE := by rw [hL']; exact sorted_edges _ hn
    have hm : ∀ e, e ∈ L' ↔ e ∈ L := fun e => by rw [hL']; exact List.mem_mergeSort
    clear hL' hcall
    have hsw : (sortWorldK r4cells 4 w g 0 n L'.toArray os).heap = (w.heap.modify g (Go.Sort.onCells (Go.Sort.putCells id 0 (recCells L').toArray))) ++ os := by
      unfold sortWorldK putRowK
      rw [flat_rec]
      rfl
    have hb : ∀ k, k < w.heap.size → k ≠ g → (sortWorldK r4cells 4 w g 0 n L'.toArray os).heap[k]? = w.heap[k]? := fun k hk hne => by
      rw [hsw, Array.getElem?_append_left (by simpa using hk), Array.getElem?_modify, if_neg (Ne.symm hne)]
    refine ⟨rfl, ⟨rfl, rfl, rfl, size_sortWorldK_c _ _ _ _ _ _ _ _, fun k hk => hb k (by omega) (by omega)⟩, L', hlen, hp, hm, by rw [recCells_len], .inr ⟨g, cap, Go.Sort.putCells id 0 (recCells L').toArray cur, by rw [hlen], hg, ?_, by omega, h2, ?_, ?_⟩⟩
    · rw [hsw, Array.getElem?_append_left (by simpa using hgl), Array.getElem?_modify, if_pos rfl, hcell]
      rfl
    · rw [Go.Sort.putCells, Array.size_mapIdx]; exact h3
    · apply List.ext_getElem?
      intro t
      by_cases ht : t < L'.length * 4
      · have h5 : t < cur.size := by rw [h3]; have := Nat.mul_le_mul_right 4 h1; omega
        have h6 : t < (recCells L').length := by rw [recCells_len]; exact ht
        rw [List.getElem?_take_of_lt ht, Array.getElem?_toList, Go.Sort.putCells, Array.getElem?_mapIdx, Array.getElem?_eq_getElem h5, Option.map_some, if_pos ⟨by omega, by simpa using h6⟩, List.getElem?_eq_getElem h6]
        simp [h6]
      · rw [List.getElem?_eq_none (by rw [List.length_take]; omega), List.getElem?_eq_none (by rw [recCells_len]; omega)]
end Go.Proofs.YtfbalpkjcfdakaaGreatDoor

namespace Go.Proofs.YtfbalpkjcfdakaaGreatDoor
open Go.RowKit Go.Shelf
set_option linter.unusedVariables false
set_option linter.unusedSimpArgs false
attribute [local go_sem ↓] Go.wp_at_zero Go.wp_at_succ

theorem mirrored_any (e : R4) (w : World) : Calls Tryz.prog 214 #[.agg #[.int .i64 e.a, .int .i64 e.b, .int .i64 e.c, .int .i64 e.d]] w fun r w' => r = .returned (.agg #[.int .i64 (mirE e).a, .int .i64 (mirE e).b, .int .i64 (mirE e).c, .int .i64 (mirE e).d]) ∧ Below w.heap.size w w' := by
  go_enter Tryz.func214, Tryz.ntmps214
  go_wp2_with fail
  first | go_ret | (refine bodyPost_ret (v := .agg #[.int .i64 (mirE e).a, .int .i64 (mirE e).b, .int .i64 (mirE e).c, .int .i64 (mirE e).d]) (by simp [*, mirE, results, Tryz.results214, go_sem]) rfl ?_)
  exact ⟨rfl, by (repeat (first | (with_reducible exact Below.refl _ _) | (with_reducible refine Ext.drewN ?_ _) | (with_reducible refine Below.drew ?_) | (with_reducible refine Ext.alloc ?_ _) | (with_reducible refine Ext.setCell ?_ (by simp; try omega) _) | (with_reducible refine Ext.trans ?_ (by assumption)) | (with_reducible assumption) | exact Below.refl _ _))⟩

theorem rec_ownE {w : World} {B g n cap : Nat} {l : List R4} (h : w.ownsRow B 55 4 (.slice (some ⟨g, 0, none⟩) n cap) n (recCells l)) : RecIs B w g l := by
  have hl := h.lt g rfl
  refine ⟨hl.1, hl.2, fun i r hr => ?_⟩
  obtain ⟨h0, h1, h2, h3⟩ := recCells_at l i r hr
  have c0 := h.cells (g := g) rfl _ _ h0
  have c1 := h.cells (g := g) rfl _ _ h1
  have c2 := h.cells (g := g) rfl _ _ h2
  have c3 := h.cells (g := g) rfl _ _ h3
  rw [addG] at c0 c1 c2 c3
  exact ⟨c0, c1, c2, c3⟩
theorem own_edges {w : World} {B : Nat} {v : Value} {l : List R4} (h : w.ownsRow B 55 4 v l.length (recCells l)) : ∃ a c, v = .slice a l.length c ∧ l.length ≤ c ∧ OwnsL B w a l := by
  have hh := h
  rcases h.2 with ⟨rfl, h0⟩ | ⟨g, cap, cur, rfl, h1, h2, h3, h9⟩
  · have hl : l = [] := List.eq_nil_of_length_eq_zero h0
    subst hl
    exact ⟨none, 0, rfl, Nat.le_refl _, .inl rfl⟩
  · have hr := rec_ownE hh
    refine ⟨_, cap, rfl, h3, .inr ⟨g, rfl, h1, hr.2.1, fun k hk => ?_⟩⟩
    obtain ⟨c0, c1, c2, c3⟩ := hr.2.2 k _ (getD_get hk)
    exact ⟨⟨c0, c1, c2, c3⟩, frozen_of_row _ _ _ _ _ h2, frozen_of_row _ _ _ _ _ h2, frozen_of_row _ _ _ _ _ h2, frozen_of_row _ _ _ _ _ h2⟩

theorem own_atE {w : World} {B : Nat} {a : Option Addr} {c : Nat} {l : List R4} (h : w.ownsRow B 55 4 (.slice a l.length c) l.length (recCells l)) : RectsL w.heap.size w a l := by
  obtain ⟨a', c', e, -, h'⟩ := own_edges h
  cases e
  exact h'.rects
theorem own_len {w : World} {B : Nat} {a : Option Addr} {c : Nat} {l : List R4} {j : Nat} (h : w.ownsRow B 55 4 (.slice a l.length c) l.length (recCells l)) (hj : (Value.slice a l.length c).ownBlock = some j) : B ≤ j ∧ j < w.heap.size := h.lt j hj
theorem take_mir {L2 L3 : List R4} {i : Nat} (h : i < L3.length) : L2 ++ (L3.take (i + 1)).map mirE = (L2 ++ (L3.take i).map mirE) ++ [mirE (L3.getD i default)] := by
  rw [List.take_succ_eq_append_getElem h, List.map_append, List.append_assoc]
  congr 2
  simp [h]

/-- What bothWays hands back: the edges, each once, in memory of its own. -/
def BRes (base : Nat) (f : Nat → Bool) (e : Ending) (w : World) : Prop := ∃ (v : Value) (L : List R4), e = .returned v ∧ w.ownsRow base 55 4 v L.length (recCells L) ∧ L.length ≤ 13122 ∧ L.Nodup ∧ ∀ g, g ∈ L ↔ IsEdge f g

set_option maxRecDepth 100000 in
set_option maxHeartbeats 4000000 in
theorem bothWays_any (m : Option Addr) (n cap : Nat) (P Q R S : Nat → Int) (w : World) (hn : n ≤ 1048576) (hcap : n ≤ cap) (hD : EnvW w) (hM : Mats w) (hR : RectsIs w.heap.size w m n P Q R S) (hok : okR P Q R S n = true) :
    Calls Tryz.prog 74 #[.slice m n cap, .func (.func 75) #[] #[]] w fun e w' => BRes w.heap.size (covF P Q R S n) e w' ∧ Below w.heap.size w w' := by
  obtain ⟨L9, hL9⟩ : ∃ L9, L9 = mgL 5 0 0 P Q R S n := ⟨_, rfl⟩
  have hlen9 : L9.length ≤ 3280 := by rw [hL9]; exact mgL_len _ _ _ _ _ _ _ _
  have hok9 := trC_ok hok
  have hE9 : Hid (∀ (L L' : List R4), L.Nodup → (∀ g, g ∈ L ↔ VertE (covF P Q R S n) g) → L'.Nodup → (∀ g, g ∈ L' ↔ VertE (trC P Q R S n) g) → (L ++ L'.map mirE).Nodup ∧ ∀ g, g ∈ L ++ L'.map mirE ↔ IsEdge (covF P Q R S n) g) := Lib.hid fun L L' h1 h2 h3 h4 => edges_both hok h1 h2 h3 h4
  have hmg := fun w' hD' hM' hR' => moveRegionC_any 5 0 0 m n cap P Q R S w' hn hcap hD' hM' hR'
  have hup1 := fun w' hD' hR' => uprightEdges_any m n cap P Q R S w' hn hcap hD' hR' hok
  rw [(mg5 hok).1] at hmg
  unfold trC at hE9
  rw [← hL9] at hmg hok9 hE9
  have hup2 := fun a9 c9 w' hc9 hD' hR' => uprightEdges_any a9 L9.length c9 (pA L9) (pB L9) (pC L9) (pD L9) w' (by omega) hc9 hD' hR' hok9
  obtain ⟨f, hf⟩ : ∃ f, f = covF P Q R S n := ⟨_, rfl⟩
  obtain ⟨f9, hf9⟩ : ∃ f9, f9 = covF (pA L9) (pB L9) (pC L9) (pD L9) L9.length := ⟨_, rfl⟩
  rw [← hf] at hup1 hE9 ⊢
  rw [← hf9] at hup2 hE9
  clear hf hf9 hok9 hok hL9
  obtain ⟨i0, hin, hz0, hz1, hz2⟩ := info_parts infoEg
  go_enter Tryz.func74, Tryz.ntmps74
  go_wp2_with (first | (have hx := bw2; clear hx; go_at_call 75; refine (hup2 a9 c9 _ hc9 (hD.ext (by (repeat (first | (with_reducible exact Below.refl _ _) | (with_reducible refine Ext.drewN ?_ _) | (with_reducible refine Below.drew ?_) | (with_reducible refine Ext.alloc ?_ _) | (with_reducible refine Ext.setCell ?_ (by simp; try omega) _) | (with_reducible refine Ext.trans ?_ (by assumption)) | (with_reducible assumption) | exact Below.refl _ _)))) (hR9.ext (by (repeat (first | (with_reducible exact Below.refl _ _) | (with_reducible refine Ext.drewN ?_ _) | (with_reducible refine Below.drew ?_) | (with_reducible refine Ext.alloc ?_ _) | (with_reducible refine Ext.setCell ?_ (by simp; try omega) _) | (with_reducible refine Ext.trans ?_ (by assumption)) | (with_reducible assumption) | exact Below.refl _ _))))).mono ?_; rintro e w3 ⟨⟨v3, L3, rfl, hown3, hl3, hn3, hm3⟩, bw3⟩; obtain ⟨a3, c3, rfl, hcp3, hol3⟩ := own_edges hown3) | (go_at_call 75; refine (hup1 _ (hD.ext (by (repeat (first | (with_reducible exact Below.refl _ _) | (with_reducible refine Ext.drewN ?_ _) | (with_reducible refine Below.drew ?_) | (with_reducible refine Ext.alloc ?_ _) | (with_reducible refine Ext.setCell ?_ (by simp; try omega) _) | (with_reducible refine Ext.trans ?_ (by assumption)) | (with_reducible assumption) | exact Below.refl _ _)))) (hR.ext (by (repeat (first | (with_reducible exact Below.refl _ _) | (with_reducible refine Ext.drewN ?_ _) | (with_reducible refine Below.drew ?_) | (with_reducible refine Ext.alloc ?_ _) | (with_reducible refine Ext.setCell ?_ (by simp; try omega) _) | (with_reducible refine Ext.trans ?_ (by assumption)) | (with_reducible assumption) | exact Below.refl _ _))))).mono ?_; rintro e w2 ⟨⟨v2, L2, rfl, hown2, hl2, hn2, hm2⟩, bw2⟩) | (go_at_call 121; refine (hmg _ (hD.ext (by (repeat (first | (with_reducible exact Below.refl _ _) | (with_reducible refine Ext.drewN ?_ _) | (with_reducible refine Below.drew ?_) | (with_reducible refine Ext.alloc ?_ _) | (with_reducible refine Ext.setCell ?_ (by simp; try omega) _) | (with_reducible refine Ext.trans ?_ (by assumption)) | (with_reducible assumption) | exact Below.refl _ _)))) (hM.below (by (repeat (first | (with_reducible exact Below.refl _ _) | (with_reducible refine Ext.drewN ?_ _) | (with_reducible refine Below.drew ?_) | (with_reducible refine Ext.alloc ?_ _) | (with_reducible refine Ext.setCell ?_ (by simp; try omega) _) | (with_reducible refine Ext.trans ?_ (by assumption)) | (with_reducible assumption) | exact Below.refl _ _))) hM.size) (hR.ext (by (repeat (first | (with_reducible exact Below.refl _ _) | (with_reducible refine Ext.drewN ?_ _) | (with_reducible refine Below.drew ?_) | (with_reducible refine Ext.alloc ?_ _) | (with_reducible refine Ext.setCell ?_ (by simp; try omega) _) | (with_reducible refine Ext.trans ?_ (by assumption)) | (with_reducible assumption) | exact Below.refl _ _))))).mono ?_; rintro e w1 ⟨⟨a9, c9, rfl, hc9, hol9⟩, bw1⟩; have hR9 := hol9.rects))
  have B1 : Below w.heap.size w w3 := Ext.trans (Ext.trans bw1 bw2) bw3
  have s12 := bw2.size
  have s23 := bw3.size
  have s01 := bw1.size
  have HB1 := Lib.hid B1
  have O2 := Lib.hid (own_keep hown2 bw3)
  have hb2 := Lib.hid fun j hj => (hown2.lt j hj).2
  have O3 := Lib.hid hown3
  have hFin := Lib.hid (hE9.out L2 L3 hn2 hm2 hn3 hm3)
  clear hown2 hown3 hol3 hup1 hup2 hmg bw1 bw2 bw3 B1 hE9 hn2 hn3 hm2 hm3 hR9 hol9 hD hM hR
  go_loopw [7, 23] (fun s7 s23 wr => ∃ i : Nat, i ≤ L3.length ∧ s23 = .int .i64 (i : Nat) ∧ Hid (wr.ownsRow w1.heap.size 55 4 s7 (L2 ++ (L3.take i).map mirE).length (recCells (L2 ++ (L3.take i).map mirE))) ∧ Hid (∀ j, s7.ownBlock = some j → j < w2.heap.size ∨ w3.heap.size ≤ j) ∧ Hid (wr.ownsRow w2.heap.size 55 4 (.slice a3 L3.length c3) L3.length (recCells L3)) ∧ Hid (Below w.heap.size w wr) ∧ Hid (∀ j, (Value.slice a3 L3.length c3).ownBlock = some j → j < w3.heap.size) ∧ w3.heap.size ≤ wr.heap.size) (fun _ s23 _ => L3.length - (intOf s23).toNat)
  case atStart => exact ⟨0, by omega, rfl, Lib.hid (by simpa using O2.out), Lib.hid fun j hj => .inl (hb2.out j hj), O3, HB1, Lib.hid fun j hj => (own_len O3.out hj).2, Nat.le_refl _⟩
  case round =>
    obtain ⟨i, hil, rfl, HO, HB, HO3, HW, HL3, hsz⟩ := hrel
    by_cases hlt : i < L3.length
    · have q1 : ((i : Nat) : Int) < (L3.length : Int) := by omega
      have q0 : (0 : Int) ≤ ((i : Nat) : Int) := by omega
      obtain ⟨e, he⟩ : ∃ e, e = L3.getD i default := ⟨_, rfl⟩
      obtain ⟨b1, o1, rfl, hb1, c0, c1, c2, c3'⟩ := own_atE HO3.out i hlt
      unfold pA at c0; unfold pB at c1; unfold pC at c2; unfold pD at c3'
      rw [← he] at c0 c1 c2 c3'
      have HT := Lib.hid (take_mir (L2 := L2) hlt)
      rw [← he] at HT
      clear he
      have hne : ∀ j, u7.ownBlock = some j → j ≠ b1 := fun j hj e => by
        subst e
        have h1 := (own_len HO3.out rfl).1
        have h2 := HL3.out j rfl
        rcases HB.out j hj with h | h <;> simp at h1 h2 <;> omega
      have HNE := Lib.hid hne
      have hll : (L2 ++ (L3.take i).map mirE).length = L2.length + i := by rw [List.length_append, List.length_map, List.length_take, Nat.min_eq_left (by omega)]
      have HLL := Lib.hid hll
      clear hne hll
      have hW := HW.out
      go_wp2_with (first | (go_at_call 214; refine (mirrored_any e _).mono ?_; rintro r v1 ⟨rfl, bv1⟩) | (at_builtin; refine wpList_append_own_at _ rfl _ _ 47 rfl (w1.heap.size) 55 i0 (.agg #[.int .i64 0, .int .i64 0, .int .i64 0, .int .i64 0]) 4 32 Tryz.underlying47 hin hz0 hz1 hz2 rfl (by decide) _ _ _ rfl ((own_keep (HO.out.alloc _) bv1).alloc _) ⟨_, 0, none⟩ 1 1 [.int .i64 _, .int .i64 _, .int .i64 _, .int .i64 _] rfl rfl (e1_newsX rfl _ _ _ _) (ints_oneW _ _ _ _) (by rw [HLL.out]; unfold maxLen; omega) (by rw [HLL.out]; omega) (by have := bv1.size; simp at this ⊢; omega) ?_; intro v' w4 hown4 hgrow hnil hat))
      have hWz : Below w.heap.size w (v1.alloc (.cells #[.int .i64 (mirE e).a, .int .i64 (mirE e).b, .int .i64 (mirE e).c, .int .i64 (mirE e).d] 55)) := by (repeat (first | (with_reducible exact Below.refl _ _) | (with_reducible refine Ext.drewN ?_ _) | (with_reducible refine Below.drew ?_) | (with_reducible refine Ext.alloc ?_ _) | (with_reducible refine Ext.setCell ?_ (by simp; try omega) _) | (with_reducible refine Ext.trans ?_ (by assumption)) | (with_reducible assumption) | exact Below.refl _ _))
      have hsv := bv1.size
      simp only [World.size_alloc] at hsv
      have hw1 : ∀ j, u7.ownBlock = some j → w1.heap.size ≤ j := fun j hj => (HO.out.lt j hj).1
      have hW4 := hWz.grown hgrow hWz.size (fun j hj => by have := hw1 j hj; omega)
      have HO4 := Lib.hid (((own_keep (HO3.out.alloc (.cells #[.int .i64 e.a, .int .i64 e.b, .int .i64 e.c, .int .i64 e.d] 55)) bv1).alloc (.cells #[.int .i64 (mirE e).a, .int .i64 (mirE e).b, .int .i64 (mirE e).c, .int .i64 (mirE e).d] 55)).kept hgrow (.inr fun h => HNE.out b1 h.symm rfl))
      have HW4 := Lib.hid hW4
      have hs4 := hgrow.size
      simp only [World.size_alloc] at hs4
      have HB4 : Hid (∀ j, v'.ownBlock = some j → j < w2.heap.size ∨ w3.heap.size ≤ j) := Lib.hid fun j hj => by
        rcases hat with h | h
        · exact HB.out j (h.symm.trans hj)
        · rw [hj] at h
          simp only [World.size_alloc, Option.some.injEq] at h
          exact .inr (by omega)
      have OW : Hid (w4.ownsRow w1.heap.size 55 4 v' (L2 ++ (L3.take (i + 1)).map mirE).length (recCells (L2 ++ (L3.take (i + 1)).map mirE))) := Lib.hid (by rw [HT.out, recCells_snoc, List.length_append]; exact hown4)
      clear hown4 hgrow hnil hat hW4 hWz bv1 c0 c1 c2 c3' HNE
      go_wp2_with fail
      go_roundw
      case rel => exact ⟨i + 1, by omega, by go_num, OW, HB4, HO4, HW4, HL3, by omega⟩
      case measure => simp [intOf]; omega
    · have q1 : ¬ ((i : Nat) : Int) < (L3.length : Int) := by omega
      obtain rfl : i = L3.length := by omega
      have HF : Hid (wr.ownsRow w1.heap.size 55 4 u7 (L2 ++ L3.map mirE).length (recCells (L2 ++ L3.map mirE))) := Lib.hid (by have h := HO.out; rw [List.take_length] at h; exact h)
      clear HO HB HO3 HL3
      go_wp2_with fail
      refine bodyPost_ret (results_tmp rfl _ _ _) rfl ⟨⟨_, L2 ++ L3.map mirE, rfl, own_lower HF.out s01, by simp; omega, hFin.out.1, hFin.out.2⟩, HW.out⟩
end Go.Proofs.YtfbalpkjcfdakaaGreatDoor

namespace Go.Proofs.YtfbalpkjcfdakaaGreatDoor
open Go.RowKit Go.Shelf
set_option linter.unusedVariables false
set_option linter.unusedSimpArgs false
attribute [local go_sem ↓] Go.wp_at_zero Go.wp_at_succ

open Classical in
/-- The sorted edges of a set. -/
noncomputable def edL (f : Nat → Bool) : List R4 := if h : ∃ L, EdgesOf f L then h.choose else []
theorem edL_of {f : Nat → Bool} {L : List R4} (h : EdgesOf f L) : L = edL f := by
  have hx : ∃ L, EdgesOf f L := ⟨L, h⟩
  unfold edL
  rw [dif_pos hx]
  exact h.uniq hx.choose_spec
theorem sum_ge : ∀ L : List R4, (∀ e ∈ L, 1 ≤ lenE e) → (L.length : Int) ≤ (L.map lenE).sum
  | [], _ => by simp
  | e :: L, h => by
    have h1 := h e (by simp)
    have h2 := sum_ge L fun g hg => h g (by simp [hg])
    simp only [List.length_cons, List.map_cons, List.sum_cons]
    omega
theorem EdgesOf.len {f : Nat → Bool} {L : List R4} (h : EdgesOf f L) : L.length ≤ 25600 := by
  have h1 := sum_ge L fun e he => by
    obtain ⟨o, c, lo, hi, ho, hm, rfl⟩ := (h.2 e).1 he
    rw [lenE_mk ho hm.1]
    have := hm.1
    omega
  rw [edges_len h] at h1
  have h2 := sidesU_len f 80
  omega
theorem edL_len (f : Nat → Bool) : (edL f).length ≤ 25600 := by
  unfold edL
  split
  · rename_i h
    exact h.choose_spec.len
  · simp
/-- What BoundaryEdges answers. -/
noncomputable def beL (P Q R S : Nat → Int) (n : Nat) : List R4 := if okR P Q R S n = true then edL (covF P Q R S n) else []
theorem beL_len (P Q R S : Nat → Int) (n : Nat) : (beL P Q R S n).length ≤ 25600 := by
  unfold beL
  split
  · exact edL_len _
  · simp

set_option maxRecDepth 100000 in
set_option maxHeartbeats 4000000 in
theorem implBoundaryEdges2_any (m : Option Addr) (n cap : Nat) (P Q R S : Nat → Int) (w : World) (hn : n ≤ 1048576) (hcap : n ≤ cap) (hD : EnvW w) (hM : Mats w) (hR : RectsIs w.heap.size w m n P Q R S) :
    Calls Tryz.prog 34 #[.slice m n cap] w fun e w' => LOwn w.heap.size (beL P Q R S n) e w' ∧ (okR P Q R S n = true → EdgesOf (covF P Q R S n) (beL P Q R S n)) ∧ Below w.heap.size w w' := by
  have his := fun w' hD' hR' => isRegion_any m n cap P Q R S w' hn hcap hD' hR'
  cases hok : okR P Q R S n with
  | false =>
    have e0 : beL P Q R S n = [] := by unfold beL; rw [if_neg (by simp [hok])]
    rw [e0]
    rw [hok] at his
    clear e0
    go_enter Tryz.func34, Tryz.ntmps34
    go_wp2_with (go_at_call 73; refine (his _ (hD.ext (by (repeat (first | (with_reducible exact Below.refl _ _) | (with_reducible refine Ext.drewN ?_ _) | (with_reducible refine Below.drew ?_) | (with_reducible refine Ext.alloc ?_ _) | (with_reducible refine Ext.setCell ?_ (by simp; try omega) _) | (with_reducible refine Ext.trans ?_ (by assumption)) | (with_reducible assumption) | exact Below.refl _ _)))) (hR.ext (by (repeat (first | (with_reducible exact Below.refl _ _) | (with_reducible refine Ext.drewN ?_ _) | (with_reducible refine Below.drew ?_) | (with_reducible refine Ext.alloc ?_ _) | (with_reducible refine Ext.setCell ?_ (by simp; try omega) _) | (with_reducible refine Ext.trans ?_ (by assumption)) | (with_reducible assumption) | exact Below.refl _ _))))).mono ?_; rintro e w1 ⟨rfl, bw1⟩)
    go_ret
    exact ⟨⟨none, 0, rfl, .inl rfl⟩, fun h => by simp at h, by (repeat (first | (with_reducible exact Below.refl _ _) | (with_reducible refine Ext.drewN ?_ _) | (with_reducible refine Below.drew ?_) | (with_reducible refine Ext.alloc ?_ _) | (with_reducible refine Ext.setCell ?_ (by simp; try omega) _) | (with_reducible refine Ext.trans ?_ (by assumption)) | (with_reducible assumption) | exact Below.refl _ _))⟩
  | true =>
    have e0 : beL P Q R S n = edL (covF P Q R S n) := by unfold beL; rw [if_pos hok]
    rw [e0]
    rw [hok] at his
    clear e0
    have hbw := fun w' hD' hM' hR' => bothWays_any m n cap P Q R S w' hn hcap hD' hM' hR' hok
    go_enter Tryz.func34, Tryz.ntmps34
    go_wp2_with (first | (go_at_call 73; refine (his _ (hD.ext (by (repeat (first | (with_reducible exact Below.refl _ _) | (with_reducible refine Ext.drewN ?_ _) | (with_reducible refine Below.drew ?_) | (with_reducible refine Ext.alloc ?_ _) | (with_reducible refine Ext.setCell ?_ (by simp; try omega) _) | (with_reducible refine Ext.trans ?_ (by assumption)) | (with_reducible assumption) | exact Below.refl _ _)))) (hR.ext (by (repeat (first | (with_reducible exact Below.refl _ _) | (with_reducible refine Ext.drewN ?_ _) | (with_reducible refine Below.drew ?_) | (with_reducible refine Ext.alloc ?_ _) | (with_reducible refine Ext.setCell ?_ (by simp; try omega) _) | (with_reducible refine Ext.trans ?_ (by assumption)) | (with_reducible assumption) | exact Below.refl _ _))))).mono ?_; rintro e w1 ⟨rfl, bw1⟩) | (go_at_call 74; refine (hbw _ (hD.ext (by (repeat (first | (with_reducible exact Below.refl _ _) | (with_reducible refine Ext.drewN ?_ _) | (with_reducible refine Below.drew ?_) | (with_reducible refine Ext.alloc ?_ _) | (with_reducible refine Ext.setCell ?_ (by simp; try omega) _) | (with_reducible refine Ext.trans ?_ (by assumption)) | (with_reducible assumption) | exact Below.refl _ _)))) (hM.below (by (repeat (first | (with_reducible exact Below.refl _ _) | (with_reducible refine Ext.drewN ?_ _) | (with_reducible refine Below.drew ?_) | (with_reducible refine Ext.alloc ?_ _) | (with_reducible refine Ext.setCell ?_ (by simp; try omega) _) | (with_reducible refine Ext.trans ?_ (by assumption)) | (with_reducible assumption) | exact Below.refl _ _))) hM.size) (hR.ext (by (repeat (first | (with_reducible exact Below.refl _ _) | (with_reducible refine Ext.drewN ?_ _) | (with_reducible refine Below.drew ?_) | (with_reducible refine Ext.alloc ?_ _) | (with_reducible refine Ext.setCell ?_ (by simp; try omega) _) | (with_reducible refine Ext.trans ?_ (by assumption)) | (with_reducible assumption) | exact Below.refl _ _))))).mono ?_; rintro e w2 ⟨⟨v, L, rfl, hown, hll, hnd, hmem⟩, bw2⟩) | (go_at_call 76; refine (sortEdges_any _ v L _ hown hnd (by omega)).mono ?_; rintro e w3 ⟨rfl, bw3, L', hlen', hp, hm', hown'⟩))
    go_ret
    obtain ⟨a, c, rfl, hc, hO⟩ := own_edges hown'
    have hE0 : EdgesOf (covF P Q R S n) L' := ⟨hp, fun g => (hm' g).trans (hmem g)⟩
    have hE : L' = edL (covF P Q R S n) := edL_of hE0
    subst hE
    exact ⟨⟨a, c, rfl, hO.mono (by have := bw1.size; omega)⟩, fun _ => hE0, (Ext.trans bw1 bw2).trans (bw3.mono (by have := bw1.size; omega))⟩
theorem implBoundaryEdges_any (m : Option Addr) (n cap : Nat) (P Q R S : Nat → Int) (w : World) (hn : n ≤ 1048576) (hcap : n ≤ cap) (hD : EnvW w) (hM : Mats w) (hR : RectsIs w.heap.size w m n P Q R S) :
    Calls Tryz.prog 34 #[.slice m n cap] w fun e w' => LOwn w.heap.size (beL P Q R S n) e w' ∧ Below w.heap.size w w' :=
  (implBoundaryEdges2_any m n cap P Q R S w hn hcap hD hM hR).mono fun e w' h => ⟨h.1, h.2.2⟩
end Go.Proofs.YtfbalpkjcfdakaaGreatDoor

namespace Go.Proofs.YtfbalpkjcfdakaaGreatDoor
open Go.RowKit
set_option linter.unusedVariables false
set_option linter.unusedSimpArgs false
attribute [local go_sem ↓] Go.wp_at_zero Go.wp_at_succ

theorem eqEdgeX_any (a b c d p q r s : Int) (w : World) : Calls Tryz.prog 71 #[.agg #[.int .i64 a, .int .i64 b, .int .i64 c, .int .i64 d], .agg #[.int .i64 p, .int .i64 q, .int .i64 r, .int .i64 s]] w fun e w' => e = .returned (.bool (eqRB a b c d p q r s)) ∧ Below w.heap.size w w' := by
  have key : (a = p ∧ b = q ∧ c = r ∧ d = s) ∨ (¬ a = p) ∨ (a = p ∧ ¬ b = q) ∨ (a = p ∧ b = q ∧ ¬ c = r) ∨ (a = p ∧ b = q ∧ c = r ∧ ¬ d = s) := by omega
  rcases key with ⟨h1, h2, h3, h4⟩ | h1 | ⟨h1, h2⟩ | ⟨h1, h2, h3⟩ | ⟨h1, h2, h3, h4⟩
  all_goals
    go_enter Tryz.func71, Tryz.ntmps71
    go_wp2_with fail
    go_ret
    exact ⟨ret_bool (by simp [eqRB, h1]; try omega), by (repeat (first | (with_reducible exact Below.refl _ _) | (with_reducible refine Ext.drewN ?_ _) | (with_reducible refine Below.drew ?_) | (with_reducible refine Ext.alloc ?_ _) | (with_reducible refine Ext.setCell ?_ (by simp; try omega) _) | (with_reducible refine Ext.trans ?_ (by assumption)) | (with_reducible assumption) | exact Below.refl _ _))⟩

theorem eqEdgeS_any (a b : Option Addr) (len c1 c2 : Nat) (P Q R S : Nat → Int) (w : World) (hlen : len ≤ 1048576) (hP : RectsIs w.heap.size w a len P Q R S) (hQ : RectsIs w.heap.size w b len P Q R S) :
    Calls Tryz.prog 30 #[.slice a len c1, .slice b len c2] w fun e w' => e = .returned (.bool true) ∧ Below w.heap.size w w' := by
  go_enter Tryz.func30, Tryz.ntmps30
  go_wp2_with fail
  go_loopw [5] (fun s5 wr => ∃ i : Nat, i ≤ len ∧ s5 = .int .i64 i ∧ Below w.heap.size w wr) (fun s5 _ => len - (intOf s5).toNat)
  case atStart => exact ⟨0, by omega, rfl, Below.refl _ _⟩
  case round =>
    obtain ⟨i, hi, rfl, hW⟩ := hrel
    by_cases hlt : i < len
    · obtain ⟨b1, o1, rfl, hb1, x0, x1, x2, x3⟩ := hP.below hW i hlt
      obtain ⟨b2, o2, rfl, hb2, y0, y1, y2, y3⟩ := hQ.below hW i hlt
      have q1 : (i : Int) < (len : Int) := by omega
      have q0 : (0 : Int) ≤ (i : Int) := by omega
      have he : eqRB (P i) (Q i) (R i) (S i) (P i) (Q i) (R i) (S i) = true := by simp [eqRB]
      go_wp2_with fail
      go_region_held3 (fun w' => w'.cell? ⟨b1, o1 + i * 4, none⟩ = some (.int .i64 (P i)) ∧ w'.cell? ⟨b1, o1 + i * 4 + 1, none⟩ = some (.int .i64 (Q i)) ∧ w'.cell? ⟨b1, o1 + i * 4 + 2, none⟩ = some (.int .i64 (R i)) ∧ w'.cell? ⟨b1, o1 + i * 4 + 3, none⟩ = some (.int .i64 (S i)) ∧ w'.cell? ⟨b2, o2 + i * 4, none⟩ = some (.int .i64 (P i)) ∧ w'.cell? ⟨b2, o2 + i * 4 + 1, none⟩ = some (.int .i64 (Q i)) ∧ w'.cell? ⟨b2, o2 + i * 4 + 2, none⟩ = some (.int .i64 (R i)) ∧ w'.cell? ⟨b2, o2 + i * 4 + 3, none⟩ = some (.int .i64 (S i)))
        (first | ((try dsimp only); go_split_ands; (repeat' (with_reducible refine And.intro ?_ ?_)) <;> first | (with_reducible assumption) | (with_reducible exact keepC (by assumption) (by assumption)) | (go_keep; done)))
        (first | (go_at_call 71; refine (eqEdgeX_any _ _ _ _ _ _ _ _ _).mono ?_; rintro e w2 ⟨rfl, bw2⟩))
      go_wp2_with fail
      go_roundw
      case rel => exact ⟨i + 1, by omega, by go_num, by (repeat (first | (with_reducible exact Below.refl _ _) | (with_reducible refine Ext.drewN ?_ _) | (with_reducible refine Below.drew ?_) | (with_reducible refine Ext.alloc ?_ _) | (with_reducible refine Ext.setCell ?_ (by simp; try omega) _) | (with_reducible refine Ext.trans ?_ (by assumption)) | (with_reducible assumption) | exact Below.refl _ _))⟩
      case measure => simp [intOf]; omega
    · have q1 : ¬ (i : Int) < (len : Int) := by omega
      go_wp2_with fail
      go_ret
      exact ⟨rfl, hW⟩

theorem markEdgeS_nil (a : Option Addr) (c : Nat) (k : Int) (w : World) : Calls Tryz.prog 31 #[.slice a 0 c, .int .i64 k] w fun e w' => e = .returned (.int .i64 k) ∧ w = w' := by
  go_enter Tryz.func31, Tryz.ntmps31
  go_wp2_with fail
  refine wp_loop_rounds 1 ?_
  rw [rounds_succ]
  go_wp2_with fail
  go_ret
  exact ⟨rfl, rfl⟩

set_option maxHeartbeats 8000000 in
set_option maxRecDepth 100000 in
theorem markEdgeS_row (g len c : Nat) (k : Int) (P Q R S : Nat → Int) (w : World) (hlen : len ≤ 1048576) (k0 : 0 ≤ k) (k1 : k ≤ 16) (hg : g < w.heap.size) (hr : RowR w g len P Q R S) :
    Calls Tryz.prog 31 #[.slice (some ⟨g, 0, none⟩) len c, .int .i64 k] w fun e w' => e = .returned (.int .i64 (k + 4 * (len : Int))) ∧ RowR w' g len (mkV k 0) (mkV k 1) (mkV k 2) (mkV k 3) ∧ Wr g w w' := by
  have HR := Lib.hid hr
  clear hr
  go_enter Tryz.func31, Tryz.ntmps31
  go_wp2_with fail
  go_loopw [1, 5] (fun s t wr => ∃ i : Nat, i ≤ len ∧ t = .int .i64 i ∧ s = .int .i64 (k + 4 * (i : Int)) ∧ Wr g w wr ∧ Hid (RowR wr g len (mkI P k 0 i) (mkI Q k 1 i) (mkI R k 2 i) (mkI S k 3 i))) (fun _ t _ => len - (intOf t).toNat)
  case atStart => exact ⟨0, by omega, rfl, by simp, Wr.refl _ _, Lib.hid (by rw [mkI_zero, mkI_zero, mkI_zero, mkI_zero]; exact HR.out)⟩
  case round =>
    obtain ⟨i, hi, rfl, rfl, hW, HM⟩ := hrel
    by_cases hlt : i < len
    · obtain ⟨⟨c0, c1, c2, c3⟩, f0, f1, f2, f3⟩ := HM.out i hlt
      have q1 : (i : Int) < (len : Int) := by omega
      have q0 : (0 : Int) ≤ (i : Int) := by omega
      have hst := HM.out.step (i := i) (mkV k 0 i) (mkV k 1 i) (mkV k 2 i) (mkV k 3 i)
      rw [mkI_step, mkI_step, mkI_step, mkI_step] at hst
      obtain ⟨v, hv⟩ : ∃ v, v = k + 4 * (i : Int) := ⟨_, rfl⟩
      have e0 : mkV k 0 i = v := by unfold mkV; omega
      have e1 : mkV k 1 i = v + 1 := by unfold mkV; omega
      have e2 : mkV k 2 i = v + 1 + 1 := by unfold mkV; omega
      have e3 : mkV k 3 i = v + 1 + 1 + 1 := by unfold mkV; omega
      rw [e0, e1, e2, e3] at hst
      have HS := Lib.hid hst
      have v0 : 0 ≤ v := by omega
      have v1 : v ≤ 100000000 := by omega
      rw [← hv]
      have HV := Lib.hid hv
      clear hst e0 e1 e2 e3 hv
      go_wp2_with fail
      go_roundw
      case rel => exact ⟨i + 1, by omega, by go_num, by rw [show v + 1 + 1 + 1 + 1 = k + 4 * ((i + 1 : Nat) : Int) by have := HV.out; omega], (((hW.set _).set _).set _).set _, HS⟩
      case measure => simp [intOf]; omega
    · have q1 : ¬ (i : Int) < (len : Int) := by omega
      obtain rfl : i = len := by omega
      go_wp2_with fail
      go_ret
      exact ⟨rfl, HM.out.congr fun j hj => ⟨mkI_full _ _ _ _ _ hj, mkI_full _ _ _ _ _ hj, mkI_full _ _ _ _ _ hj, mkI_full _ _ _ _ _ hj⟩, hW⟩

theorem markOwnE (B : Nat) (a : Option Addr) (l : List R4) (c : Nat) (k : Int) (w : World) (hB : B ≤ w.heap.size) (hl : l.length ≤ 1048576) (k0 : 0 ≤ k) (k1 : k ≤ 16) (hO : OwnsL B w a l) :
    Calls Tryz.prog 31 #[.slice a l.length c, .int .i64 k] w fun e w' => e = .returned (.int .i64 (k + 4 * (l.length : Int))) ∧ HeldL B w' a l.length k ∧ Below B w w' := by
  rcases hO with rfl | ⟨h, rfl, h1, h2, hr⟩
  · refine (markEdgeS_nil a c k w).mono ?_
    rintro e w' ⟨rfl, rfl⟩
    exact ⟨by simp, .inl rfl, Below.refl _ _⟩
  · refine (markEdgeS_row h l.length c k _ _ _ _ w hl k0 k1 h2 hr).mono ?_
    rintro e w' ⟨rfl, hm, hw⟩
    exact ⟨rfl, .inr ⟨h, rfl, h1, Nat.lt_of_lt_of_le h2 hw.size, hm⟩, Wr.below (Below.refl _ _) hw hB h1⟩

end Go.Proofs.YtfbalpkjcfdakaaGreatDoor
