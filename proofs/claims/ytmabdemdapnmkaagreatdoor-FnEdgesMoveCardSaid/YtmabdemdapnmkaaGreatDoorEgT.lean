/- The order of edges: compare, in a world that only grows. No condition. -/
import Derived.Test.YtmabdemdapnmkaaGreatDoorEgA
import Derived.Test.YtmabdemdapnmkaaGreatDoorShelf
namespace Go.Proofs.YtmabdemdapnmkaaGreatDoor
open Go.RowKit Go.Shelf Go.Lib
open Go.Sort (SWO grow flatK size_flatK get_flatK HoldsK putRowK)
set_option linter.unusedVariables false
set_option linter.unusedSimpArgs false
attribute [local go_sem ↓] Go.wp_at_zero Go.wp_at_succ

def Gr (w w' : World) : Prop := ∃ (q : Nat) (os : Array Obj), w' = grow (w.drewN q) os
theorem Gr.of {w w' : World} (h : Below w.heap.size w w') (hd : w.drawn ≤ w'.drawn) : Gr w w' := by
  refine ⟨w'.drawn - w.drawn, w'.heap.extract w.heap.size w'.heap.size, ?_⟩
  have hh : w'.heap = w.heap ++ w'.heap.extract w.heap.size w'.heap.size := by
    apply Array.ext_getElem?
    intro i
    rw [Array.getElem?_append]
    split
    · rename_i hi
      exact h.block i hi
    · rw [Array.getElem?_extract]
      have hs := h.size
      split
      · congr 1; omega
      · rw [Array.getElem?_eq_none_iff]; omega
  have h1 := h.os
  have h2 := h.tape
  have h3 := h.output
  obtain ⟨hp, tp, dr, os, out⟩ := w
  obtain ⟨hp', tp', dr', os', out'⟩ := w'
  simp only at h1 h2 h3 hh hd
  subst h1 h2 h3
  show _ = ({ heap := hp ++ _, tape := tp', drawn := dr + (dr' - dr), os := os', output := out' } : World)
  rw [Nat.add_sub_cancel' hd, ← hh]
theorem dr_alloc (w : World) (o : Obj) : (w.alloc o).drawn = w.drawn := rfl
theorem dr_drew (w : World) : w.drew.drawn = w.drawn + 1 := rfl
theorem dr_set (w : World) (a : Addr) (v : Value) : (w.setCell a v).drawn = w.drawn := rfl

def cmpI (x y : Int) : Int := if x < y then -1 else if y < x then 1 else 0
def orV (x y z u : Int) : Int := if x ≠ 0 then x else if y ≠ 0 then y else if z ≠ 0 then z else u
theorem cmpI_ne {x y : Int} (h : x ≠ y) : cmpI x y ≠ 0 := by
  unfold cmpI; by_cases h1 : x < y
  · rw [if_pos h1]; omega
  · rw [if_neg h1, if_pos (by omega)]; omega
theorem cmpI_eq (x : Int) : cmpI x x = 0 := by unfold cmpI; rw [if_neg (by omega), if_neg (by omega)]
theorem cmpI_lt {x y : Int} : cmpI x y < 0 ↔ x < y := by
  unfold cmpI; by_cases h1 : x < y
  · rw [if_pos h1]; omega
  · rw [if_neg h1]; by_cases h2 : y < x
    · rw [if_pos h2]; omega
    · rw [if_neg h2]; omega
/-- Less by y0, then x0, then y1, then x1. -/
def cmpE (p q : R4) : Int := orV (cmpI p.b q.b) (cmpI p.a q.a) (cmpI p.d q.d) (cmpI p.c q.c)
theorem cmpE_lt (p q : R4) : cmpE p q < 0 ↔ p.b < q.b ∨ (p.b = q.b ∧ (p.a < q.a ∨ (p.a = q.a ∧ (p.d < q.d ∨ (p.d = q.d ∧ p.c < q.c))))) := by
  unfold cmpE orV
  by_cases h1 : p.b = q.b
  · rw [h1, cmpI_eq, if_neg (by simp)]
    by_cases h2 : p.a = q.a
    · rw [h2, cmpI_eq, if_neg (by simp)]
      by_cases h3 : p.d = q.d
      · rw [h3, cmpI_eq, if_neg (by simp), cmpI_lt]; omega
      · rw [if_pos (cmpI_ne h3), cmpI_lt]; omega
    · rw [if_pos (cmpI_ne h2), cmpI_lt]; omega
  · rw [if_pos (cmpI_ne h1), cmpI_lt]; omega

theorem isNaN_any (x : Int) (w : World) : Calls Tryz.prog 164 #[.int .i64 x] w fun e w' => e = .returned (.bool false) ∧ w = w' := by
  go_enter Tryz.func164, Tryz.ntmps164
  go_wp2_with fail
  go_ret
  exact ⟨ret_bool (by simp), rfl⟩
theorem compare_any (x y : Int) (w : World) : Calls Tryz.prog 135 #[.int .i64 x, .int .i64 y] w fun e w' => e = .returned (.int .i64 (cmpI x y)) ∧ Below w.heap.size w w' ∧ w.drawn ≤ w'.drawn := by
  have key : x < y ∨ (¬ x < y ∧ y < x) ∨ (¬ x < y ∧ ¬ y < x) := by omega
  rcases key with h1 | ⟨h1, h2⟩ | ⟨h1, h2⟩
  all_goals
    go_enter Tryz.func135, Tryz.ntmps135
    go_wp2_with (go_at_call 164; go_call isNaN_any as e w' ⟨rfl, rfl⟩)
    go_ret
    exact ⟨ret_int (by unfold cmpI; (repeat' split) <;> omega), by (repeat (first | (with_reducible exact Below.refl _ _) | (with_reducible refine Ext.drewN ?_ _) | (with_reducible refine Below.drew ?_) | (with_reducible refine Ext.alloc ?_ _) | (with_reducible refine Ext.setCell ?_ (by simp; try omega) _) | (with_reducible refine Ext.trans ?_ (by assumption)) | (with_reducible assumption) | exact Below.refl _ _)), (by first | exact Nat.le_refl _ | (simp; done) | (simp; omega) | omega)⟩

set_option maxHeartbeats 4000000 in
theorem or4_any (g : Nat) (x y z u : Int) (cap : Nat) (w : World) (h0 : w.cell? ⟨g, 0, none⟩ = some (.int .i64 x)) (h1 : w.cell? ⟨g, 1, none⟩ = some (.int .i64 y)) (h2 : w.cell? ⟨g, 2, none⟩ = some (.int .i64 z)) (h3 : w.cell? ⟨g, 3, none⟩ = some (.int .i64 u)) :
    Calls Tryz.prog 120 #[.slice (some ⟨g, 0, none⟩) 4 cap] w fun e w' => e = .returned (.int .i64 (orV x y z u)) ∧ Below w.heap.size w w' ∧ w.drawn ≤ w'.drawn := by
  by_cases k0 : x = 0
  · by_cases k1 : y = 0
    · by_cases k2 : z = 0
      · by_cases k3 : u = 0
        all_goals
          subst k0 k1 k2
          go_enter Tryz.func120, Tryz.ntmps120
          go_wp2_with fail
          go_rounds 5
          go_ret
          exact ⟨ret_int (by simp [orV, k3]), by (repeat (first | (with_reducible exact Below.refl _ _) | (with_reducible refine Ext.drewN ?_ _) | (with_reducible refine Below.drew ?_) | (with_reducible refine Ext.alloc ?_ _) | (with_reducible refine Ext.setCell ?_ (by simp; try omega) _) | (with_reducible refine Ext.trans ?_ (by assumption)) | (with_reducible assumption) | exact Below.refl _ _)), (by first | exact Nat.le_refl _ | (simp; done) | (simp; omega) | omega)⟩
      · subst k0 k1
        go_enter Tryz.func120, Tryz.ntmps120
        go_wp2_with fail
        go_rounds 3
        go_ret
        exact ⟨ret_int (by simp [orV, k2]), by (repeat (first | (with_reducible exact Below.refl _ _) | (with_reducible refine Ext.drewN ?_ _) | (with_reducible refine Below.drew ?_) | (with_reducible refine Ext.alloc ?_ _) | (with_reducible refine Ext.setCell ?_ (by simp; try omega) _) | (with_reducible refine Ext.trans ?_ (by assumption)) | (with_reducible assumption) | exact Below.refl _ _)), (by first | exact Nat.le_refl _ | (simp; done) | (simp; omega) | omega)⟩
    · subst k0
      go_enter Tryz.func120, Tryz.ntmps120
      go_wp2_with fail
      go_rounds 2
      go_ret
      exact ⟨ret_int (by simp [orV, k1]), by (repeat (first | (with_reducible exact Below.refl _ _) | (with_reducible refine Ext.drewN ?_ _) | (with_reducible refine Below.drew ?_) | (with_reducible refine Ext.alloc ?_ _) | (with_reducible refine Ext.setCell ?_ (by simp; try omega) _) | (with_reducible refine Ext.trans ?_ (by assumption)) | (with_reducible assumption) | exact Below.refl _ _)), (by first | exact Nat.le_refl _ | (simp; done) | (simp; omega) | omega)⟩
  · go_enter Tryz.func120, Tryz.ntmps120
    go_wp2_with fail
    go_rounds 1
    go_ret
    exact ⟨ret_int (by simp [orV, k0]), by (repeat (first | (with_reducible exact Below.refl _ _) | (with_reducible refine Ext.drewN ?_ _) | (with_reducible refine Below.drew ?_) | (with_reducible refine Ext.alloc ?_ _) | (with_reducible refine Ext.setCell ?_ (by simp; try omega) _) | (with_reducible refine Ext.trans ?_ (by assumption)) | (with_reducible assumption) | exact Below.refl _ _)), (by first | exact Nat.le_refl _ | (simp; done) | (simp; omega) | omega)⟩

set_option maxHeartbeats 8000000 in
theorem cmpR_any (a b c d p q r s : Int) (w : World) : Calls Tryz.prog 94 #[.agg #[.int .i64 a, .int .i64 b, .int .i64 c, .int .i64 d], .agg #[.int .i64 p, .int .i64 q, .int .i64 r, .int .i64 s]] w fun e w' => e = .returned (.int .i64 (cmpE ⟨a, b, c, d⟩ ⟨p, q, r, s⟩)) ∧ Below w.heap.size w w' ∧ w.drawn ≤ w'.drawn := by
  show Calls _ _ _ _ fun e w' => e = .returned (.int .i64 (orV (cmpI b q) (cmpI a p) (cmpI d s) (cmpI c r))) ∧ Below w.heap.size w w' ∧ w.drawn ≤ w'.drawn
  go_enter Tryz.func94, Tryz.ntmps94
  go_wp2_with fail
  go_region_held3 (fun w' => w.heap.size + 1 < w'.heap.size ∧ w.drawn ≤ w'.drawn ∧ Below w.heap.size w w' ∧ w'.cell? ⟨w.heap.size, 0, none⟩ = some (.int .i64 a) ∧ w'.cell? ⟨w.heap.size, 1, none⟩ = some (.int .i64 b) ∧ w'.cell? ⟨w.heap.size, 2, none⟩ = some (.int .i64 c) ∧ w'.cell? ⟨w.heap.size, 3, none⟩ = some (.int .i64 d) ∧ w'.cell? ⟨w.heap.size + 1, 0, none⟩ = some (.int .i64 p) ∧ w'.cell? ⟨w.heap.size + 1, 1, none⟩ = some (.int .i64 q) ∧ w'.cell? ⟨w.heap.size + 1, 2, none⟩ = some (.int .i64 r) ∧ w'.cell? ⟨w.heap.size + 1, 3, none⟩ = some (.int .i64 s))
    (first | ((try simp only [World.drawn_alloc, World.drawn_drew, World.drawn_setCell]); omega) | (first | ((try dsimp only); go_split_ands; (repeat' (with_reducible refine And.intro ?_ ?_)) <;> first | ((repeat (with_reducible refine keepS ?_ (by simp; try omega) _)); (first | (with_reducible assumption) | (with_reducible exact keepC (by assumption) (by assumption)) | (with_reducible exact keepA (by assumption) _) | (with_reducible exact keepR (by assumption) (by omega) _))) | ((try simp only [World.size_alloc, World.size_setCell, World.size_drew]); omega) | (refine Mats.below hM ?_ hM.size; (repeat (first | (with_reducible exact Below.refl _ _) | (with_reducible refine Ext.drewN ?_ _) | (with_reducible refine Below.drew ?_) | (with_reducible refine Ext.alloc ?_ _) | (with_reducible refine Ext.setCell ?_ (by simp; try omega) _) | (with_reducible refine Ext.trans ?_ (by assumption)) | (with_reducible assumption) | exact Below.refl _ _)); done) | ((repeat (first | (with_reducible exact Below.refl _ _) | (with_reducible refine Ext.drewN ?_ _) | (with_reducible refine Below.drew ?_) | (with_reducible refine Ext.alloc ?_ _) | (with_reducible refine Ext.setCell ?_ (by simp; try omega) _) | (with_reducible refine Ext.trans ?_ (by assumption)) | (with_reducible assumption) | exact Below.refl _ _)); done) | (go_keep; done))))
    (first | (go_at_call_of 135 (Value.int .i64 b); refine (compare_any b q _).mono ?_; rintro e v0 ⟨rfl, bv0, dv0⟩; obtain ⟨sv0, zv0, cv0, fv0⟩ := bcell bv0; (try simp only [World.size_alloc, World.size_setCell, World.size_drew] at sv0); (try simp only [World.drawn_alloc, World.drawn_drew, World.drawn_setCell] at dv0)) | (go_at_call_of 135 (Value.int .i64 a); refine (compare_any a p _).mono ?_; rintro e v1 ⟨rfl, bv1, dv1⟩; obtain ⟨sv1, zv1, cv1, fv1⟩ := bcell bv1; (try simp only [World.size_alloc, World.size_setCell, World.size_drew] at sv1); (try simp only [World.drawn_alloc, World.drawn_drew, World.drawn_setCell] at dv1)) | (go_at_call_of 135 (Value.int .i64 d); refine (compare_any d s _).mono ?_; rintro e v2 ⟨rfl, bv2, dv2⟩; obtain ⟨sv2, zv2, cv2, fv2⟩ := bcell bv2; (try simp only [World.size_alloc, World.size_setCell, World.size_drew] at sv2); (try simp only [World.drawn_alloc, World.drawn_drew, World.drawn_setCell] at dv2)) | (go_at_call_of 135 (Value.int .i64 c); refine (compare_any c r _).mono ?_; rintro e v3 ⟨rfl, bv3, dv3⟩; obtain ⟨sv3, zv3, cv3, fv3⟩ := bcell bv3; (try simp only [World.size_alloc, World.size_setCell, World.size_drew] at sv3); (try simp only [World.drawn_alloc, World.drawn_drew, World.drawn_setCell] at dv3)) | (go_at_call 120; refine (or4_any _ (cmpI b q) (cmpI a p) (cmpI d s) (cmpI c r) _ _ (by simp [go_sem]) (by simp [go_sem]) (by simp [go_sem]) (by simp [go_sem])).mono ?_; rintro e v4 ⟨rfl, bv4, dv4⟩; obtain ⟨sv4, zv4, cv4, fv4⟩ := bcell bv4; (try simp only [World.size_alloc, World.size_setCell, World.size_drew] at sv4); (try simp only [World.drawn_alloc, World.drawn_drew, World.drawn_setCell] at dv4)))
  all_goals
    go_split_ands
    go_wp2_with fail
    go_ret
    exact ⟨rfl, by (repeat (first | (with_reducible exact Below.refl _ _) | (with_reducible refine Ext.drewN ?_ _) | (with_reducible refine Below.drew ?_) | (with_reducible refine Ext.alloc ?_ _) | (with_reducible refine Ext.setCell ?_ (by simp; try omega) _) | (with_reducible refine Ext.trans ?_ (by assumption)) | (with_reducible assumption) | exact Below.refl _ _)), (by first | exact Nat.le_refl _ | (simp; done) | (simp; omega) | omega)⟩

theorem cmpEdge_any (a b c d p q r s : Int) (w : World) : Calls Tryz.prog 47 #[.agg #[.int .i64 a, .int .i64 b, .int .i64 c, .int .i64 d], .agg #[.int .i64 p, .int .i64 q, .int .i64 r, .int .i64 s]] w fun e w' => e = .returned (.int .i64 (cmpE ⟨a, b, c, d⟩ ⟨p, q, r, s⟩)) ∧ Below w.heap.size w w' ∧ w.drawn ≤ w'.drawn := by
  obtain ⟨v, hv⟩ : ∃ v, v = cmpE ⟨a, b, c, d⟩ ⟨p, q, r, s⟩ := ⟨_, rfl⟩
  have hc := fun w => cmpR_any a b c d p q r s w
  rw [← hv] at hc ⊢
  clear hv
  go_enter Tryz.func47, Tryz.ntmps47
  go_wp2_with (go_at_call 94; refine (hc _).mono ?_; rintro e v1 ⟨rfl, bv1, dv1⟩; obtain ⟨sv1, zv1, cv1, fv1⟩ := bcell bv1; (try simp only [World.size_alloc, World.size_setCell, World.size_drew] at sv1); (try simp only [World.drawn_alloc, World.drawn_drew, World.drawn_setCell] at dv1))
  go_ret
  exact ⟨rfl, by (repeat (first | (with_reducible exact Below.refl _ _) | (with_reducible refine Ext.drewN ?_ _) | (with_reducible refine Below.drew ?_) | (with_reducible refine Ext.alloc ?_ _) | (with_reducible refine Ext.setCell ?_ (by simp; try omega) _) | (with_reducible refine Ext.trans ?_ (by assumption)) | (with_reducible assumption) | exact Below.refl _ _)), (by first | exact Nat.le_refl _ | (simp; done) | (simp; omega) | omega)⟩

instance : Inhabited R4 := ⟨⟨0, 0, 0, 0⟩⟩
theorem ltOf_iff (e g : R4) : ltOf cmpE e g = true ↔ ltE e g := by
  unfold ltOf ltE
  rw [decide_eq_true_eq, cmpE_lt]
theorem ltOf_not (e g : R4) : ltOf cmpE e g = false ↔ ¬ ltE e g := by
  rw [← ltOf_iff, Bool.not_eq_true]
theorem swoE : SWO (ltOf cmpE) := by
  refine ⟨fun x => ?_, fun x y z h1 h2 => ?_, fun x y z h1 h2 => ?_⟩
  · rw [ltOf_not]; exact ltE_irr x
  · rw [ltOf_iff] at *; exact ltE_trans h1 h2
  · rw [ltOf_not] at *
    unfold ltE at *
    omega
theorem cmpLaysE (blk off size : Nat) (w : World) : CmpLays Tryz.prog 47 #[] r4cells 4 cmpE blk off size w := by
  intro m os dk hs x y
  refine (cmpEdge_any x.a x.b x.c x.d y.a y.b y.c y.d _).mono ?_
  rintro e w' ⟨rfl, hb, hd⟩
  exact ⟨rfl, Gr.of hb hd⟩

theorem flat_rec (L : List R4) : flatK r4cells 4 L.toArray = (recCells L).toArray := by
  apply Array.ext_getElem?
  intro t
  by_cases ht : t < L.length * 4
  · have hq : t / 4 < L.length := by omega
    obtain ⟨c0, c1, c2, c3⟩ := recCells_at L (t / 4) L[t / 4] (List.getElem?_eq_getElem hq)
    have hL : t < (flatK r4cells 4 L.toArray).size := by rw [size_flatK]; simpa using ht
    rw [Array.getElem?_eq_getElem hL, ← getElem!_pos (flatK r4cells 4 L.toArray) t hL, get_flatK _ _ _ _ (by simpa using ht), List.getElem?_toArray]
    have e : L.toArray[t / 4]! = L[t / 4] := by simp [hq]
    rw [e]
    have h4 : t % 4 = 0 ∨ t % 4 = 1 ∨ t % 4 = 2 ∨ t % 4 = 3 := by omega
    rcases h4 with h | h | h | h
    · have h9 : t / 4 * 4 = t := by omega
      rw [h]; rw [h9] at c0; rw [c0]; rfl
    · have h9 : t / 4 * 4 + 1 = t := by omega
      rw [h]; rw [h9] at c1; rw [c1]; rfl
    · have h9 : t / 4 * 4 + 2 = t := by omega
      rw [h]; rw [h9] at c2; rw [c2]; rfl
    · have h9 : t / 4 * 4 + 3 = t := by omega
      rw [h]; rw [h9] at c3; rw [c3]; rfl
  · rw [Array.getElem?_eq_none (by rw [size_flatK]; simp; omega), Array.getElem?_eq_none (by simp [recCells_len]; omega)]

theorem sorted_edges (L : List R4) (hn : L.Nodup) : (L.mergeSort fun x y => !(ltOf cmpE) y x).Pairwise ltE := by
  have h1 : (L.mergeSort fun x y => !(ltOf cmpE) y x).Pairwise (fun x y => (!(ltOf cmpE) y x) = true) := by
    refine List.pairwise_mergeSort ?_ ?_ _
    · intro a b c h1 h2
      simp only [Bool.not_eq_true'] at *
      exact swoE.ntrans _ _ _ h2 h1
    · intro a b
      simp only [Bool.or_eq_true, Bool.not_eq_true', ltOf_not]
      by_cases h : ltE b a
      · exact .inr fun h' => ltE_irr _ (ltE_trans h h')
      · exact .inl h
  have h2 : (L.mergeSort fun x y => !(ltOf cmpE) y x).Nodup := (List.mergeSort_perm _ _).symm.nodup hn
  refine (List.pairwise_and_iff.2 ⟨h1, h2⟩).imp ?_
  rintro a b ⟨h, hne⟩
  rw [Bool.not_eq_true', ltOf_not] at h
  exact ltE_tot h (Ne.symm hne)

theorem sortEdges_any (base : Nat) (v : Value) (L : List R4) (w : World) (hv : w.ownsRow base 32 4 v L.length (recCells L)) (hn : L.Nodup) (hl : L.length ≤ 1048576) :
    Calls Tryz.prog 46 #[v, .func (.func 47) #[] #[]] w fun e w' => e = .returned (.tuple #[]) ∧ Below base w w' ∧ ∃ L' : List R4, L'.length = L.length ∧ L'.Pairwise ltE ∧ (∀ e, e ∈ L' ↔ e ∈ L) ∧ w'.ownsRow base 32 4 v L'.length (recCells L') := by
  obtain ⟨hc, ⟨rfl, h0⟩ | ⟨g, cap, cur, rfl, hg, hcell, h1, h2, h3, h4⟩⟩ := hv
  · have : L = [] := List.eq_nil_of_length_eq_zero h0
    subst this
    refine (Tryz.slices_SortFunc_none_f46 (α := R4) none 0 _ w).mono ?_
    rintro e w' ⟨rfl, rfl⟩
    exact ⟨rfl, Below.refl _ _, [], rfl, .nil, fun e => Iff.rfl, rfl, .inl ⟨rfl, rfl⟩⟩
  · have hgl : g < w.heap.size := (Array.getElem?_eq_some_iff.1 hcell).1
    have hH : HoldsK r4cells 4 w g 0 L.toArray := by
      intro j hj
      rw [flat_rec] at hj ⊢
      have hj2 : j < (recCells L).length := by simpa using hj
      have hj3 : j < L.length * 4 := by rw [← hc]; exact hj2
      have hcur : cur[j]? = some (recCells L)[j] := by
        rw [← Array.getElem?_toList, ← List.getElem?_eq_getElem hj2]
        conv => rhs; rw [← h4]
        rw [List.getElem?_take_of_lt hj3]
      constructor
      · show w.cell? ⟨g, 0 + j, none⟩ = some (id (recCells L).toArray[j]!)
        rw [Nat.zero_add]
        unfold World.cell?
        simp only [hcell, hcur]
        simp [hj2]
      · show w.frozen? ⟨g, 0 + j, none⟩ = false
        unfold World.frozen?
        simp only [hcell]
        simp
    have hcall := Tryz.slices_SortFunc_total_f46 (α := R4) 4 (fun w => by kernel_rfl) (fun w => by kernel_rfl) r4cells (fun x => rfl) (fun x v hv => by simp [r4cells] at hv; rcases hv with rfl | rfl | rfl | rfl <;> rfl) cmpE swoE 47 #[] g 0 cap L.toArray w (enters_of Tryz.func47 (by kernel_rfl) rfl) (cmpLaysE _ _ _ _) hH hgl (by simp; omega) (fun x y h1 h2 => by
      rw [ltOf_not] at h1 h2
      by_cases e : x = y
      · exact e
      · exact absurd (ltE_tot h1 e) h2)
    rw [List.size_toArray] at hcall
    refine hcall.mono ?_
    rintro e w' ⟨rfl, n, os, rfl⟩
    obtain ⟨L', hL'⟩ : ∃ L', L' = L.toArray.toList.mergeSort (fun x y => !(ltOf cmpE) y x) := ⟨_, rfl⟩
    rw [← hL']
    have hlen : L'.length = L.length := by rw [hL', List.length_mergeSort]
    have hp : L'.Pairwise ltE := by rw [hL']; exact sorted_edges _ hn
    have hm : ∀ e, e ∈ L' ↔ e ∈ L := fun e => by rw [hL']; exact List.mem_mergeSort
    clear hL' hcall
    have hsw : (sortWorldK r4cells 4 w g 0 n L'.toArray os).heap = (w.heap.modify g (Go.Sort.onCells (Go.Sort.putCells id 0 (recCells L').toArray))) ++ os := by
      unfold sortWorldK putRowK
      rw [flat_rec]
      rfl
    have hb : ∀ k, k < w.heap.size → k ≠ g → (sortWorldK r4cells 4 w g 0 n L'.toArray os).heap[k]? = w.heap[k]? := fun k hk hne => by
      rw [hsw, Array.getElem?_append_left (by simpa using hk), Array.getElem?_modify, if_neg (Ne.symm hne)]
    refine ⟨rfl, ⟨rfl, rfl, rfl, size_sortWorldK_c _ _ _ _ _ _ _ _, fun k hk => hb k (by omega) (by omega)⟩, L', hlen, hp, hm, by rw [recCells_len], .inr ⟨g, cap, Go.Sort.putCells id 0 (recCells L').toArray cur, by rw [hlen], hg, ?_, by omega, h2, ?_, ?_⟩⟩
    · rw [hsw, Array.getElem?_append_left (by simpa using hgl), Array.getElem?_modify, if_pos rfl, hcell]
      rfl
    · rw [Go.Sort.putCells, Array.size_mapIdx]; exact h3
    · apply List.ext_getElem?
      intro t
      by_cases ht : t < L'.length * 4
      · have h5 : t < cur.size := by rw [h3]; have := Nat.mul_le_mul_right 4 h1; omega
        have h6 : t < (recCells L').length := by rw [recCells_len]; exact ht
        rw [List.getElem?_take_of_lt ht, Array.getElem?_toList, Go.Sort.putCells, Array.getElem?_mapIdx, Array.getElem?_eq_getElem h5, Option.map_some, if_pos ⟨by omega, by simpa using h6⟩, List.getElem?_eq_getElem h6]
        simp [h6]
      · rw [List.getElem?_eq_none (by rw [List.length_take]; omega), List.getElem?_eq_none (by rw [recCells_len]; omega)]
end Go.Proofs.YtmabdemdapnmkaaGreatDoor
