/- An edge that a side extends. Condition: the edge is in memory. -/
import Derived.Test.YtmabdemdapnmkaaGreatDoorEgQ
import Derived.Test.YtmabdemdapnmkaaGreatDoorEgG
import Derived.Test.YtmabdemdapnmkaaGreatDoorEgB
import Derived.Test.YtmabdemdapnmkaaGreatDoorSzT
namespace Go.Proofs.YtmabdemdapnmkaaGreatDoor
open Go.RowKit
set_option linter.unusedVariables false
set_option linter.unusedSimpArgs false
attribute [local go_sem ↓] Go.wp_at_zero Go.wp_at_succ

/-- An edge's block. -/
abbrev eObj (e : R4) : Obj := .cells #[.int .i64 e.a, .int .i64 e.b, .int .i64 e.c, .int .i64 e.d] 32

theorem eObj_cells {w : World} {b : Nat} {e : R4} (h : w.heap[b]? = some (eObj e)) : (w.cell? ⟨b, 0, none⟩ = some (.int .i64 e.a) ∧ w.cell? ⟨b, 1, none⟩ = some (.int .i64 e.b) ∧ w.cell? ⟨b, 2, none⟩ = some (.int .i64 e.c) ∧ w.cell? ⟨b, 3, none⟩ = some (.int .i64 e.d)) ∧
    (w.frozen? ⟨b, 0, none⟩ = false ∧ w.frozen? ⟨b, 1, none⟩ = false ∧ w.frozen? ⟨b, 2, none⟩ = false ∧ w.frozen? ⟨b, 3, none⟩ = false) := by
  simp [World.cell?, World.frozen?, h]
theorem eObj_set {w : World} {b : Nat} {e : R4} (h : w.heap[b]? = some (eObj e)) (g : R4) : ((((w.setCell ⟨b, 0, none⟩ (.int .i64 g.a)).setCell ⟨b, 1, none⟩ (.int .i64 g.b)).setCell ⟨b, 2, none⟩ (.int .i64 g.c)).setCell ⟨b, 3, none⟩ (.int .i64 g.d)).heap[b]? = some (eObj g) := by
  simp [World.setCell, Array.getElem?_modify, h]
set_option maxRecDepth 100000 in
set_option maxHeartbeats 8000000 in
theorem extend_1 (b : Nat) (e s : R4) (w : World) (hb : w.heap[b]? = some (eObj e)) (h1 : s.a = e.c) (h2 : s.b = e.d) :
    Calls Tryz.prog 124 #[.pointer (some ⟨b, 0, none⟩), eV s] w fun r w' => r = .returned (.bool true) ∧ w'.heap[b]? = some (eObj ⟨e.a, e.b, s.c, s.d⟩) ∧ Kept (fun k => k = b) w w' := by
  obtain ⟨sa, sb, sc, sd⟩ := s
  obtain ⟨a, b', c, d⟩ := e
  simp only at h1 h2 hb ⊢
  subst h1 h2
  have hE : ∀ w, (Op.equalIn 10000 71 (.agg #[.int .i64 sa, .int .i64 sb]) (.agg #[.int .i64 sa, .int .i64 sb])).run Tryz.prog w = .ok true w := fun w => by rw [eqPt2]; simp
  dsimp only [eV]
  go_enter Tryz.func124, Tryz.ntmps124
  go_wp2_with fail
  obtain ⟨v, hv⟩ : ∃ v, v = w.alloc (.cells #[.int .i64 sa, .int .i64 sb, .int .i64 sc, .int .i64 sd] 32) := ⟨_, rfl⟩
  have Bv : Below w.heap.size w v := by rw [hv]; (repeat (first | (with_reducible exact Below.refl _ _) | (with_reducible refine Ext.drewN ?_ _) | (with_reducible refine Below.drew ?_) | (with_reducible refine Ext.alloc ?_ _) | (with_reducible refine Ext.setCell ?_ (by simp; try omega) _) | (with_reducible refine Ext.trans ?_ (by assumption)) | (with_reducible assumption) | exact Below.refl _ _))
  have hvs : v.heap[w.heap.size]? = some (eObj ⟨sa, sb, sc, sd⟩) := by rw [hv]; exact heap_alloc_new w _
  have hbl : b < w.heap.size := (Array.getElem?_eq_some_iff.1 hb).1
  have hvb : v.heap[b]? = some (eObj ⟨a, b', sa, sb⟩) := (Bv.block b hbl).trans hb
  rw [← hv]
  clear hv hb
  have hS : ∀ w', Below v.heap.size v w' → w'.heap[w.heap.size]? = some (eObj ⟨sa, sb, sc, sd⟩) := fun w' h => (h.block _ (Array.getElem?_eq_some_iff.1 hvs).1).trans hvs
  have hEb : ∀ w', Below v.heap.size v w' → w'.heap[b]? = some (eObj ⟨a, b', sa, sb⟩) := fun w' h => (h.block _ (Array.getElem?_eq_some_iff.1 hvb).1).trans hvb
  have x0 : ∀ w', Below v.heap.size v w' → w'.cell? ⟨w.heap.size, 0, none⟩ = some (.int .i64 sa) := fun w' h => (eObj_cells (hS w' h)).1.1
  have x1 : ∀ w', Below v.heap.size v w' → w'.cell? ⟨w.heap.size, 1, none⟩ = some (.int .i64 sb) := fun w' h => (eObj_cells (hS w' h)).1.2.1
  have x2 : ∀ w', Below v.heap.size v w' → w'.cell? ⟨w.heap.size, 2, none⟩ = some (.int .i64 sc) := fun w' h => (eObj_cells (hS w' h)).1.2.2.1
  have x3 : ∀ w', Below v.heap.size v w' → w'.cell? ⟨w.heap.size, 3, none⟩ = some (.int .i64 sd) := fun w' h => (eObj_cells (hS w' h)).1.2.2.2
  have y0 : ∀ w', Below v.heap.size v w' → w'.cell? ⟨b, 0, none⟩ = some (.int .i64 a) := fun w' h => (eObj_cells (hEb w' h)).1.1
  have y1 : ∀ w', Below v.heap.size v w' → w'.cell? ⟨b, 1, none⟩ = some (.int .i64 b') := fun w' h => (eObj_cells (hEb w' h)).1.2.1
  have y2 : ∀ w', Below v.heap.size v w' → w'.cell? ⟨b, 2, none⟩ = some (.int .i64 sa) := fun w' h => (eObj_cells (hEb w' h)).1.2.2.1
  have y3 : ∀ w', Below v.heap.size v w' → w'.cell? ⟨b, 3, none⟩ = some (.int .i64 sb) := fun w' h => (eObj_cells (hEb w' h)).1.2.2.2
  have HS := Lib.hid hS
  have HEb := Lib.hid hEb
  clear hS hEb hvs hvb
  go_region_held3 (fun w' => Below v.heap.size v w')
    (((repeat (first | (with_reducible exact Below.refl _ _) | (with_reducible refine Ext.drewN ?_ _) | (with_reducible refine Below.drew ?_) | (with_reducible refine Ext.alloc ?_ _) | (with_reducible refine Ext.setCell ?_ (by simp; try omega) _) | (with_reducible refine Ext.trans ?_ (by assumption)) | (with_reducible assumption) | exact Below.refl _ _)); done))
    (first | (go_at_call 49; refine (eBegin_any sa sb sc sd _).mono ?_; rintro r v1 ⟨rfl, bv1⟩; have s1 := bv1.size) | (go_at_call 50; refine (eEnd_any a b' sa sb _).mono ?_; rintro r v2 ⟨rfl, bv2⟩; have s2 := bv2.size))
  go_upto_region 3 with fail
  refine (wpIn_wide (n := 9)).1 ?_
  gi_wp2
  refine regionT (S := fun w' => Below v.heap.size v w') (tl := fun i => i == 9) (by kernel_rfl) ?_
  have hS := (show Below v.heap.size v v2.drew by (repeat (first | (with_reducible exact Below.refl _ _) | (with_reducible refine Ext.drewN ?_ _) | (with_reducible refine Below.drew ?_) | (with_reducible refine Ext.alloc ?_ _) | (with_reducible refine Ext.setCell ?_ (by simp; try omega) _) | (with_reducible refine Ext.trans ?_ (by assumption)) | (with_reducible assumption) | exact Below.refl _ _)))
  refine takeT (i := 0) (.pointer (some ⟨b, 0, none⟩)) rfl (by kernel_rfl) (by kernel_rfl) (by kernel_rfl) (by kernel_rfl) (by kernel_rfl) (fun _ _ _ h => h) (by rfl) ?_ (fun _ => rfl) hS ?_
  · intro w' h9
    simp [go_sem, Act.put]
  simp only [go_sem, Act.put, List.getElem_toArray, List.getElem_cons_succ, List.getElem_cons_zero, List.setIfInBounds_toArray, List.set_cons_succ, List.set_cons_zero]
  refine takeT (i := 1) (.pointer (some ⟨b, 0, none⟩)) rfl (by kernel_rfl) (by kernel_rfl) (by kernel_rfl) (by kernel_rfl) (by kernel_rfl) (fun _ _ _ h => h) (by rfl) ?_ (fun _ => rfl) hS ?_
  · intro w' h9
    simp [go_sem, Act.put]
  simp only [go_sem, Act.put, List.getElem_toArray, List.getElem_cons_succ, List.getElem_cons_zero, List.setIfInBounds_toArray, List.set_cons_succ, List.set_cons_zero]
  refine takeT (i := 5) (.agg #[.int .i64 sa, .int .i64 sb, .int .i64 sc, .int .i64 sd]) rfl (by kernel_rfl) (by kernel_rfl) (by kernel_rfl) (by kernel_rfl) (by kernel_rfl) (fun _ _ _ h => h) (by rfl) ?_ (fun _ => rfl) hS ?_
  · intro w' h9
    simp [go_sem, Act.put, x0 _ h9, x1 _ h9, x2 _ h9, x3 _ h9, y0 _ h9, y1 _ h9, y2 _ h9, y3 _ h9]
  simp only [go_sem, Act.put, List.getElem_toArray, List.getElem_cons_succ, List.getElem_cons_zero, List.setIfInBounds_toArray, List.set_cons_succ, List.set_cons_zero]
  refine takeT (i := 2) (.pointer (some ⟨b, 0, none⟩)) rfl (by kernel_rfl) (by kernel_rfl) (by kernel_rfl) (by kernel_rfl) (by kernel_rfl) (fun _ _ _ h => h) (by rfl) ?_ (fun _ => rfl) hS ?_
  · intro w' h9
    simp [go_sem, Act.put]
  simp only [go_sem, Act.put, List.getElem_toArray, List.getElem_cons_succ, List.getElem_cons_zero, List.setIfInBounds_toArray, List.set_cons_succ, List.set_cons_zero]
  refine takeT (i := 3) (.agg #[.int .i64 a, .int .i64 b', .int .i64 sa, .int .i64 sb]) rfl (by kernel_rfl) (by kernel_rfl) (by kernel_rfl) (by kernel_rfl) (by kernel_rfl) (fun _ _ _ h => h) (by rfl) ?_ (fun _ => rfl) hS ?_
  · intro w' h9
    simp [go_sem, Act.put, x0 _ h9, x1 _ h9, x2 _ h9, x3 _ h9, y0 _ h9, y1 _ h9, y2 _ h9, y3 _ h9]
  simp only [go_sem, Act.put, List.getElem_toArray, List.getElem_cons_succ, List.getElem_cons_zero, List.setIfInBounds_toArray, List.set_cons_succ, List.set_cons_zero]
  refine oneN (i := 4) (by kernel_rfl) (wpOpIn_step rfl fun K' hK' => ?_)
  rw [if_pos (by rfl)]
  refine ⟨fun _ _ => trivial, ?_⟩
  simp only [go_sem, Act.put]
  simp [go_sem, enters_of Tryz.func49 (by kernel_rfl) rfl]
  refine (callsIn_wide.2 (eBegin_any a b' sa sb _)).mono ?_
  rintro r u ⟨rfl, bu⟩
  replace hS := Below.trans hS (bu.mono hS.size)
  clear bu
  dsimp only
  refine hK' _ _ ⟨hS, ?_⟩
  clear hK'
  refine oneN (i := 6) (by kernel_rfl) (wpOpIn_step rfl fun K' hK' => ?_)
  rw [if_pos (by rfl)]
  refine ⟨fun _ _ => trivial, ?_⟩
  simp only [go_sem, Act.put]
  simp [go_sem, enters_of Tryz.func50 (by kernel_rfl) rfl]
  refine (callsIn_wide.2 (eEnd_any sa sb sc sd _)).mono ?_
  rintro r u ⟨rfl, bu⟩
  replace hS := Below.trans hS (bu.mono hS.size)
  clear bu
  dsimp only
  refine hK' _ _ ⟨hS, ?_⟩
  clear hK'
  refine oneN (i := 7) (by kernel_rfl) (wpOpIn_step rfl fun K' hK' => ?_)
  rw [if_pos (by rfl)]
  refine ⟨fun _ _ => trivial, ?_⟩
  simp only [go_sem, Act.put]
  simp [go_sem, enters_of Tryz.func63 (by kernel_rfl) rfl]
  refine (callsIn_wide.2 (edgeBetween_any a b' sc sd _)).mono ?_
  rintro r u ⟨rfl, bu⟩
  replace hS := Below.trans hS (bu.mono hS.size)
  clear bu
  dsimp only
  refine hK' _ _ ⟨hS, ?_⟩
  clear hK'
  refine takeT (i := 8) (.pointer (some ⟨b, 0, none⟩)) rfl (by kernel_rfl) (by kernel_rfl) (by kernel_rfl) (by kernel_rfl) (by kernel_rfl) (fun _ _ _ h => h) (by rfl) ?_ (fun _ => rfl) hS ?_
  · intro w' h9
    simp [go_sem, Act.put]
  simp only [go_sem, Act.put, List.getElem_toArray, List.getElem_cons_succ, List.getElem_cons_zero, List.setIfInBounds_toArray, List.set_cons_succ, List.set_cons_zero]
  refine oneT (i := 9) (by kernel_rfl) rfl (wpOpIn_step rfl fun K' hK' => ?_)
  rw [if_pos (by rfl)]
  refine ⟨fun _ _ => trivial, ?_⟩
  obtain ⟨f0, f1, f2, f3⟩ := (eObj_cells (HEb.out _ hS)).2
  have z0 := y0 _ hS
  have z1 := y1 _ hS
  have z2 := y2 _ hS
  have z3 := y3 _ hS
  simp [go_sem, Act.put, f0, f1, f2, f3, z0, z1, z2, z3]
  refine hK' _ _ ?_
  clear hK'
  refine doneT (by kernel_rfl) ?_ _
  gi_wp2
  go_wp2_with fail
  go_ret
  have K0 := Kept.of_below (X := fun k => k = b) (Ext.trans Bv hS)
  refine ⟨rfl, eObj_set (HEb.out _ hS) ⟨a, b', sc, sd⟩, ?_⟩
  exact (((K0.setCell (p := ⟨b, 0, none⟩) (show b = b from rfl) _).setCell (p := ⟨b, 1, none⟩) (show b = b from rfl) _).setCell (p := ⟨b, 2, none⟩) (show b = b from rfl) _).setCell (p := ⟨b, 3, none⟩) (show b = b from rfl) _

set_option maxRecDepth 100000 in
set_option maxHeartbeats 8000000 in
theorem extend_2 (b : Nat) (e s : R4) (w : World) (hb : w.heap[b]? = some (eObj e)) (h0 : ¬ (s.a = e.c ∧ s.b = e.d)) (h1 : e.a = s.c) (h2 : e.b = s.d) :
    Calls Tryz.prog 124 #[.pointer (some ⟨b, 0, none⟩), eV s] w fun r w' => r = .returned (.bool true) ∧ w'.heap[b]? = some (eObj ⟨s.a, s.b, e.c, e.d⟩) ∧ Kept (fun k => k = b) w w' := by
  obtain ⟨sa, sb, sc, sd⟩ := s
  obtain ⟨a, b', c, d⟩ := e
  simp only at h0 h1 h2 hb ⊢
  subst h1 h2
  have hE : ∀ w, (Op.equalIn 10000 71 (.agg #[.int .i64 sa, .int .i64 sb]) (.agg #[.int .i64 c, .int .i64 d])).run Tryz.prog w = .ok false w := fun w => by rw [eqPt2]; have : (sa == c && sb == d) = false := (by rw [Bool.eq_false_iff]; intro h; simp at h; exact h0 h); rw [this]
  have hE2 : ∀ w, (Op.equalIn 10000 71 (.agg #[.int .i64 a, .int .i64 b']) (.agg #[.int .i64 a, .int .i64 b'])).run Tryz.prog w = .ok true w := fun w => by rw [eqPt2]; simp
  dsimp only [eV]
  go_enter Tryz.func124, Tryz.ntmps124
  go_wp2_with fail
  obtain ⟨v, hv⟩ : ∃ v, v = w.alloc (.cells #[.int .i64 sa, .int .i64 sb, .int .i64 a, .int .i64 b'] 32) := ⟨_, rfl⟩
  have Bv : Below w.heap.size w v := by rw [hv]; (repeat (first | (with_reducible exact Below.refl _ _) | (with_reducible refine Ext.drewN ?_ _) | (with_reducible refine Below.drew ?_) | (with_reducible refine Ext.alloc ?_ _) | (with_reducible refine Ext.setCell ?_ (by simp; try omega) _) | (with_reducible refine Ext.trans ?_ (by assumption)) | (with_reducible assumption) | exact Below.refl _ _))
  have hvs : v.heap[w.heap.size]? = some (eObj ⟨sa, sb, a, b'⟩) := by rw [hv]; exact heap_alloc_new w _
  have hbl : b < w.heap.size := (Array.getElem?_eq_some_iff.1 hb).1
  have hvb : v.heap[b]? = some (eObj ⟨a, b', c, d⟩) := (Bv.block b hbl).trans hb
  rw [← hv]
  clear hv hb
  have hS : ∀ w', Below v.heap.size v w' → w'.heap[w.heap.size]? = some (eObj ⟨sa, sb, a, b'⟩) := fun w' h => (h.block _ (Array.getElem?_eq_some_iff.1 hvs).1).trans hvs
  have hEb : ∀ w', Below v.heap.size v w' → w'.heap[b]? = some (eObj ⟨a, b', c, d⟩) := fun w' h => (h.block _ (Array.getElem?_eq_some_iff.1 hvb).1).trans hvb
  have x0 : ∀ w', Below v.heap.size v w' → w'.cell? ⟨w.heap.size, 0, none⟩ = some (.int .i64 sa) := fun w' h => (eObj_cells (hS w' h)).1.1
  have x1 : ∀ w', Below v.heap.size v w' → w'.cell? ⟨w.heap.size, 1, none⟩ = some (.int .i64 sb) := fun w' h => (eObj_cells (hS w' h)).1.2.1
  have x2 : ∀ w', Below v.heap.size v w' → w'.cell? ⟨w.heap.size, 2, none⟩ = some (.int .i64 a) := fun w' h => (eObj_cells (hS w' h)).1.2.2.1
  have x3 : ∀ w', Below v.heap.size v w' → w'.cell? ⟨w.heap.size, 3, none⟩ = some (.int .i64 b') := fun w' h => (eObj_cells (hS w' h)).1.2.2.2
  have y0 : ∀ w', Below v.heap.size v w' → w'.cell? ⟨b, 0, none⟩ = some (.int .i64 a) := fun w' h => (eObj_cells (hEb w' h)).1.1
  have y1 : ∀ w', Below v.heap.size v w' → w'.cell? ⟨b, 1, none⟩ = some (.int .i64 b') := fun w' h => (eObj_cells (hEb w' h)).1.2.1
  have y2 : ∀ w', Below v.heap.size v w' → w'.cell? ⟨b, 2, none⟩ = some (.int .i64 c) := fun w' h => (eObj_cells (hEb w' h)).1.2.2.1
  have y3 : ∀ w', Below v.heap.size v w' → w'.cell? ⟨b, 3, none⟩ = some (.int .i64 d) := fun w' h => (eObj_cells (hEb w' h)).1.2.2.2
  have HS := Lib.hid hS
  have HEb := Lib.hid hEb
  clear hS hEb hvs hvb
  go_region_held3 (fun w' => Below v.heap.size v w')
    (((repeat (first | (with_reducible exact Below.refl _ _) | (with_reducible refine Ext.drewN ?_ _) | (with_reducible refine Below.drew ?_) | (with_reducible refine Ext.alloc ?_ _) | (with_reducible refine Ext.setCell ?_ (by simp; try omega) _) | (with_reducible refine Ext.trans ?_ (by assumption)) | (with_reducible assumption) | exact Below.refl _ _)); done))
    (first | (go_at_call 49; refine (eBegin_any sa sb a b' _).mono ?_; rintro r v1 ⟨rfl, bv1⟩; have s1 := bv1.size) | (go_at_call 50; refine (eEnd_any a b' c d _).mono ?_; rintro r v2 ⟨rfl, bv2⟩; have s2 := bv2.size))
  go_wp2_with fail
  go_region_held3 (fun w' => Below v.heap.size v w')
    (((repeat (first | (with_reducible exact Below.refl _ _) | (with_reducible refine Ext.drewN ?_ _) | (with_reducible refine Below.drew ?_) | (with_reducible refine Ext.alloc ?_ _) | (with_reducible refine Ext.setCell ?_ (by simp; try omega) _) | (with_reducible refine Ext.trans ?_ (by assumption)) | (with_reducible assumption) | exact Below.refl _ _)); done))
    (first | (go_at_call 50; refine (eEnd_any sa sb a b' _).mono ?_; rintro r v3 ⟨rfl, bv3⟩; have s3 := bv3.size) | (go_at_call 49; refine (eBegin_any a b' c d _).mono ?_; rintro r v4 ⟨rfl, bv4⟩; have s4 := bv4.size))
  go_upto_region 5 with fail
  refine (wpIn_wide (n := 9)).1 ?_
  gi_wp2
  refine regionT (S := fun w' => Below v.heap.size v w') (tl := fun i => i == 9) (by kernel_rfl) ?_
  have hS := (show Below v.heap.size v v4.drew by (repeat (first | (with_reducible exact Below.refl _ _) | (with_reducible refine Ext.drewN ?_ _) | (with_reducible refine Below.drew ?_) | (with_reducible refine Ext.alloc ?_ _) | (with_reducible refine Ext.setCell ?_ (by simp; try omega) _) | (with_reducible refine Ext.trans ?_ (by assumption)) | (with_reducible assumption) | exact Below.refl _ _)))
  refine takeT (i := 0) (.pointer (some ⟨b, 0, none⟩)) rfl (by kernel_rfl) (by kernel_rfl) (by kernel_rfl) (by kernel_rfl) (by kernel_rfl) (fun _ _ _ h => h) (by rfl) ?_ (fun _ => rfl) hS ?_
  · intro w' h9
    simp [go_sem, Act.put]
  simp only [go_sem, Act.put, List.getElem_toArray, List.getElem_cons_succ, List.getElem_cons_zero, List.setIfInBounds_toArray, List.set_cons_succ, List.set_cons_zero]
  refine takeT (i := 1) (.agg #[.int .i64 sa, .int .i64 sb, .int .i64 a, .int .i64 b']) rfl (by kernel_rfl) (by kernel_rfl) (by kernel_rfl) (by kernel_rfl) (by kernel_rfl) (fun _ _ _ h => h) (by rfl) ?_ (fun _ => rfl) hS ?_
  · intro w' h9
    simp [go_sem, Act.put, x0 _ h9, x1 _ h9, x2 _ h9, x3 _ h9, y0 _ h9, y1 _ h9, y2 _ h9, y3 _ h9]
  simp only [go_sem, Act.put, List.getElem_toArray, List.getElem_cons_succ, List.getElem_cons_zero, List.setIfInBounds_toArray, List.set_cons_succ, List.set_cons_zero]
  refine takeT (i := 3) (.pointer (some ⟨b, 0, none⟩)) rfl (by kernel_rfl) (by kernel_rfl) (by kernel_rfl) (by kernel_rfl) (by kernel_rfl) (fun _ _ _ h => h) (by rfl) ?_ (fun _ => rfl) hS ?_
  · intro w' h9
    simp [go_sem, Act.put]
  simp only [go_sem, Act.put, List.getElem_toArray, List.getElem_cons_succ, List.getElem_cons_zero, List.setIfInBounds_toArray, List.set_cons_succ, List.set_cons_zero]
  refine takeT (i := 4) (.pointer (some ⟨b, 0, none⟩)) rfl (by kernel_rfl) (by kernel_rfl) (by kernel_rfl) (by kernel_rfl) (by kernel_rfl) (fun _ _ _ h => h) (by rfl) ?_ (fun _ => rfl) hS ?_
  · intro w' h9
    simp [go_sem, Act.put]
  simp only [go_sem, Act.put, List.getElem_toArray, List.getElem_cons_succ, List.getElem_cons_zero, List.setIfInBounds_toArray, List.set_cons_succ, List.set_cons_zero]
  refine takeT (i := 5) (.agg #[.int .i64 a, .int .i64 b', .int .i64 c, .int .i64 d]) rfl (by kernel_rfl) (by kernel_rfl) (by kernel_rfl) (by kernel_rfl) (by kernel_rfl) (fun _ _ _ h => h) (by rfl) ?_ (fun _ => rfl) hS ?_
  · intro w' h9
    simp [go_sem, Act.put, x0 _ h9, x1 _ h9, x2 _ h9, x3 _ h9, y0 _ h9, y1 _ h9, y2 _ h9, y3 _ h9]
  simp only [go_sem, Act.put, List.getElem_toArray, List.getElem_cons_succ, List.getElem_cons_zero, List.setIfInBounds_toArray, List.set_cons_succ, List.set_cons_zero]
  refine oneN (i := 2) (by kernel_rfl) (wpOpIn_step rfl fun K' hK' => ?_)
  rw [if_pos (by rfl)]
  refine ⟨fun _ _ => trivial, ?_⟩
  simp only [go_sem, Act.put]
  simp [go_sem, enters_of Tryz.func49 (by kernel_rfl) rfl]
  refine (callsIn_wide.2 (eBegin_any sa sb a b' _)).mono ?_
  rintro r u ⟨rfl, bu⟩
  replace hS := Below.trans hS (bu.mono hS.size)
  clear bu
  dsimp only
  refine hK' _ _ ⟨hS, ?_⟩
  clear hK'
  refine oneN (i := 6) (by kernel_rfl) (wpOpIn_step rfl fun K' hK' => ?_)
  rw [if_pos (by rfl)]
  refine ⟨fun _ _ => trivial, ?_⟩
  simp only [go_sem, Act.put]
  simp [go_sem, enters_of Tryz.func50 (by kernel_rfl) rfl]
  refine (callsIn_wide.2 (eEnd_any a b' c d _)).mono ?_
  rintro r u ⟨rfl, bu⟩
  replace hS := Below.trans hS (bu.mono hS.size)
  clear bu
  dsimp only
  refine hK' _ _ ⟨hS, ?_⟩
  clear hK'
  refine oneN (i := 7) (by kernel_rfl) (wpOpIn_step rfl fun K' hK' => ?_)
  rw [if_pos (by rfl)]
  refine ⟨fun _ _ => trivial, ?_⟩
  simp only [go_sem, Act.put]
  simp [go_sem, enters_of Tryz.func63 (by kernel_rfl) rfl]
  refine (callsIn_wide.2 (edgeBetween_any sa sb c d _)).mono ?_
  rintro r u ⟨rfl, bu⟩
  replace hS := Below.trans hS (bu.mono hS.size)
  clear bu
  dsimp only
  refine hK' _ _ ⟨hS, ?_⟩
  clear hK'
  refine takeT (i := 8) (.pointer (some ⟨b, 0, none⟩)) rfl (by kernel_rfl) (by kernel_rfl) (by kernel_rfl) (by kernel_rfl) (by kernel_rfl) (fun _ _ _ h => h) (by rfl) ?_ (fun _ => rfl) hS ?_
  · intro w' h9
    simp [go_sem, Act.put]
  simp only [go_sem, Act.put, List.getElem_toArray, List.getElem_cons_succ, List.getElem_cons_zero, List.setIfInBounds_toArray, List.set_cons_succ, List.set_cons_zero]
  refine oneT (i := 9) (by kernel_rfl) rfl (wpOpIn_step rfl fun K' hK' => ?_)
  rw [if_pos (by rfl)]
  refine ⟨fun _ _ => trivial, ?_⟩
  obtain ⟨f0, f1, f2, f3⟩ := (eObj_cells (HEb.out _ hS)).2
  have z0 := y0 _ hS
  have z1 := y1 _ hS
  have z2 := y2 _ hS
  have z3 := y3 _ hS
  simp [go_sem, Act.put, f0, f1, f2, f3, z0, z1, z2, z3]
  refine hK' _ _ ?_
  clear hK'
  refine doneT (by kernel_rfl) ?_ _
  gi_wp2
  go_wp2_with fail
  go_ret
  have K0 := Kept.of_below (X := fun k => k = b) (Ext.trans Bv hS)
  refine ⟨rfl, eObj_set (HEb.out _ hS) ⟨sa, sb, c, d⟩, ?_⟩
  exact (((K0.setCell (p := ⟨b, 0, none⟩) (show b = b from rfl) _).setCell (p := ⟨b, 1, none⟩) (show b = b from rfl) _).setCell (p := ⟨b, 2, none⟩) (show b = b from rfl) _).setCell (p := ⟨b, 3, none⟩) (show b = b from rfl) _

set_option maxRecDepth 100000 in
set_option maxHeartbeats 8000000 in
theorem extend_0 (b : Nat) (e s : R4) (w : World) (hb : w.heap[b]? = some (eObj e)) (h0 : ¬ (s.a = e.c ∧ s.b = e.d)) (h3 : ¬ (s.c = e.a ∧ s.d = e.b)) :
    Calls Tryz.prog 124 #[.pointer (some ⟨b, 0, none⟩), eV s] w fun r w' => r = .returned (.bool false) ∧ Below w.heap.size w w' := by
  obtain ⟨sa, sb, sc, sd⟩ := s
  obtain ⟨a, b', c, d⟩ := e
  simp only at h0 h3 hb ⊢
  have hE : ∀ w, (Op.equalIn 10000 71 (.agg #[.int .i64 sa, .int .i64 sb]) (.agg #[.int .i64 c, .int .i64 d])).run Tryz.prog w = .ok false w := fun w => by rw [eqPt2]; have : (sa == c && sb == d) = false := (by rw [Bool.eq_false_iff]; intro h; simp at h; exact h0 h); rw [this]
  have hE2 : ∀ w, (Op.equalIn 10000 71 (.agg #[.int .i64 sc, .int .i64 sd]) (.agg #[.int .i64 a, .int .i64 b'])).run Tryz.prog w = .ok false w := fun w => by rw [eqPt2]; have : (sc == a && sd == b') = false := (by rw [Bool.eq_false_iff]; intro h; simp at h; exact h3 h); rw [this]
  dsimp only [eV]
  go_enter Tryz.func124, Tryz.ntmps124
  go_wp2_with fail
  obtain ⟨v, hv⟩ : ∃ v, v = w.alloc (.cells #[.int .i64 sa, .int .i64 sb, .int .i64 sc, .int .i64 sd] 32) := ⟨_, rfl⟩
  have Bv : Below w.heap.size w v := by rw [hv]; (repeat (first | (with_reducible exact Below.refl _ _) | (with_reducible refine Ext.drewN ?_ _) | (with_reducible refine Below.drew ?_) | (with_reducible refine Ext.alloc ?_ _) | (with_reducible refine Ext.setCell ?_ (by simp; try omega) _) | (with_reducible refine Ext.trans ?_ (by assumption)) | (with_reducible assumption) | exact Below.refl _ _))
  have hvs : v.heap[w.heap.size]? = some (eObj ⟨sa, sb, sc, sd⟩) := by rw [hv]; exact heap_alloc_new w _
  have hbl : b < w.heap.size := (Array.getElem?_eq_some_iff.1 hb).1
  have hvb : v.heap[b]? = some (eObj ⟨a, b', c, d⟩) := (Bv.block b hbl).trans hb
  rw [← hv]
  clear hv hb
  have hS : ∀ w', Below v.heap.size v w' → w'.heap[w.heap.size]? = some (eObj ⟨sa, sb, sc, sd⟩) := fun w' h => (h.block _ (Array.getElem?_eq_some_iff.1 hvs).1).trans hvs
  have hEb : ∀ w', Below v.heap.size v w' → w'.heap[b]? = some (eObj ⟨a, b', c, d⟩) := fun w' h => (h.block _ (Array.getElem?_eq_some_iff.1 hvb).1).trans hvb
  have x0 : ∀ w', Below v.heap.size v w' → w'.cell? ⟨w.heap.size, 0, none⟩ = some (.int .i64 sa) := fun w' h => (eObj_cells (hS w' h)).1.1
  have x1 : ∀ w', Below v.heap.size v w' → w'.cell? ⟨w.heap.size, 1, none⟩ = some (.int .i64 sb) := fun w' h => (eObj_cells (hS w' h)).1.2.1
  have x2 : ∀ w', Below v.heap.size v w' → w'.cell? ⟨w.heap.size, 2, none⟩ = some (.int .i64 sc) := fun w' h => (eObj_cells (hS w' h)).1.2.2.1
  have x3 : ∀ w', Below v.heap.size v w' → w'.cell? ⟨w.heap.size, 3, none⟩ = some (.int .i64 sd) := fun w' h => (eObj_cells (hS w' h)).1.2.2.2
  have y0 : ∀ w', Below v.heap.size v w' → w'.cell? ⟨b, 0, none⟩ = some (.int .i64 a) := fun w' h => (eObj_cells (hEb w' h)).1.1
  have y1 : ∀ w', Below v.heap.size v w' → w'.cell? ⟨b, 1, none⟩ = some (.int .i64 b') := fun w' h => (eObj_cells (hEb w' h)).1.2.1
  have y2 : ∀ w', Below v.heap.size v w' → w'.cell? ⟨b, 2, none⟩ = some (.int .i64 c) := fun w' h => (eObj_cells (hEb w' h)).1.2.2.1
  have y3 : ∀ w', Below v.heap.size v w' → w'.cell? ⟨b, 3, none⟩ = some (.int .i64 d) := fun w' h => (eObj_cells (hEb w' h)).1.2.2.2
  have HS := Lib.hid hS
  have HEb := Lib.hid hEb
  clear hS hEb hvs hvb
  go_region_held3 (fun w' => Below v.heap.size v w')
    (((repeat (first | (with_reducible exact Below.refl _ _) | (with_reducible refine Ext.drewN ?_ _) | (with_reducible refine Below.drew ?_) | (with_reducible refine Ext.alloc ?_ _) | (with_reducible refine Ext.setCell ?_ (by simp; try omega) _) | (with_reducible refine Ext.trans ?_ (by assumption)) | (with_reducible assumption) | exact Below.refl _ _)); done))
    (first | (go_at_call 49; refine (eBegin_any sa sb sc sd _).mono ?_; rintro r v1 ⟨rfl, bv1⟩; have s1 := bv1.size) | (go_at_call 50; refine (eEnd_any a b' c d _).mono ?_; rintro r v2 ⟨rfl, bv2⟩; have s2 := bv2.size))
  go_wp2_with fail
  go_region_held3 (fun w' => Below v.heap.size v w')
    (((repeat (first | (with_reducible exact Below.refl _ _) | (with_reducible refine Ext.drewN ?_ _) | (with_reducible refine Below.drew ?_) | (with_reducible refine Ext.alloc ?_ _) | (with_reducible refine Ext.setCell ?_ (by simp; try omega) _) | (with_reducible refine Ext.trans ?_ (by assumption)) | (with_reducible assumption) | exact Below.refl _ _)); done))
    (first | (go_at_call 50; refine (eEnd_any sa sb sc sd _).mono ?_; rintro r v3 ⟨rfl, bv3⟩; have s3 := bv3.size) | (go_at_call 49; refine (eBegin_any a b' c d _).mono ?_; rintro r v4 ⟨rfl, bv4⟩; have s4 := bv4.size))
  go_wp2_with fail
  go_ret
  have hU : Below v.heap.size v v4 := Ext.trans (Ext.trans (Below.drew (Ext.trans (Ext.trans (Below.drew (Below.refl _ v)) bv1) bv2)) bv3) bv4
  exact ⟨rfl, Ext.trans Bv hU⟩
end Go.Proofs.YtmabdemdapnmkaaGreatDoor
