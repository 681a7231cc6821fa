/- The program's cellsOfRegion and IsRegion. Conditions: the elements' cells are in memory; the table of math/bits is in memory. -/
import Derived.Test.YtciodcknobccdaaDoorRiL
import Derived.Test.YtciodcknobccdaaDoorRiO
import Derived.Test.YtciodcknobccdaaDoorRhC
namespace Go.Proofs.YtciodcknobccdaaDoor
open Go.RowKit Go.Shelf
set_option linter.unusedVariables false
set_option linter.unusedSimpArgs false
attribute [local go_sem] Oper.semAt_some

theorem store59 {W : World} {g : Nat} {G0 : Nat → Nat} (G : Nat → Nat) (h : RowsAt W g G0) : (storeCells ⟨g, 0, none⟩ (wArr G).toList 0).run Tryd.prog W = .ok () (W.setRow g (wArr G)) := by
  have hone : (wArr G).all (·.oneCell') = true := by
    rw [Array.all_eq_true]
    intro i hi
    simp [wArr, Value.oneCell']
  have := run_storeCells_from (P := Tryd.prog) g 151 (wArr G).toList 0 (wArr G0) W h (by simp [wArr_size]) (fun v hv => (Array.all_eq_true_iff_forall_mem.1 hone) v (by simpa using hv))
  rw [this]
  simp

/-- What the program's set says of the list. -/
theorem okR_f {P Q R S : Nat → Int} {n : Nat} (h : okN P Q R S n = false) : okR P Q R S n = false := by
  cases hr : okR P Q R S n with
  | false => rfl
  | true =>
    obtain ⟨h1, h2⟩ := (okR_iff P Q R S n).1 hr
    have := canonL_len' (covF P Q R S n)
    rw [h2, listR_len] at this
    unfold okN at h
    rw [decide_eq_true this, allV_t h1] at h
    cases h
theorem okR_t {P Q R S : Nat → Int} {n : Nat} (h : okN P Q R S n = true) : okR P Q R S n = decide (canonL (covF P Q R S n) = listR P Q R S n) := by
  unfold okN at h
  simp only [Bool.and_eq_true, decide_eq_true_eq] at h
  rw [Bool.eq_iff_iff, okR_iff, decide_eq_true_eq]
  exact ⟨fun h' => h'.2, fun h' => ⟨fun i hi => allV_at h.2 hi, h'⟩⟩

theorem shN_zero (f : Nat → Int) : shN 0 f = f := by funext i; unfold shN; rw [Nat.zero_add]
theorem shN_shN (a b : Nat) (f : Nat → Int) : shN b (shN a f) = shN (a + b) f := by funext i; unfold shN; rw [Nat.add_assoc]
theorem eqR_t {a b c d p q r s : Int} (h : eqRB a b c d p q r s = true) : R4.mk a b c d = R4.mk p q r s := by
  unfold eqRB at h
  simp only [Bool.and_eq_true, beq_iff_eq] at h
  obtain ⟨rfl, rfl, rfl, rfl⟩ := h
  rfl
theorem eqR_f {a b c d p q r s : Int} (h : eqRB a b c d p q r s = false) : R4.mk a b c d ≠ R4.mk p q r s := fun e => by
  cases e
  simp [eqRB] at h

/-- The words of a region, or none. -/
def regG (P Q R S : Nat → Int) (n : Nat) : Nat → Nat := if okR P Q R S n = true then rowsG (rowsQ n P Q R S n) else fun _ => 0
/-- The world in which the set has been stored, and what a store of no cells into the result does there. -/
theorem results_two {fn : Func} {p q : Tmp} {ty tz : TypeId} (h : fn.results = #[.cell p ty, .cell q tz]) (tmps : Array Value) (P : Program) (w : World) :
    (results fn tmps).run P w =
      ((asAddr (tmps.getD p undef)).run P w).andThen fun a w₁ => ((loadVar ty a).run P w₁).andThen fun v w₂ => ((asAddr (tmps.getD q undef)).run P w₂).andThen fun b w₃ => ((loadVar tz b).run P w₃).andThen fun u w₄ => .ok (.tuple #[v, u]) w₄ := by
  simp only [results, h]
  simp [Sem.run_bind, Result.andThen]
theorem RowsAt.other {V : World} {g : Nat} {G : Nat → Nat} (h : RowsAt V g G) {p : Addr} (hp : g ≠ p.block) (u : Value) : RowsAt (V.setCell p u) g G := (Below.heap_setCell _ _ _ _ hp).trans h
theorem RowsAt.putObj {V : World} {g l : Nat} {G : Nat → Nat} (h : RowsAt V g G) (o : Obj) (hl : g ≠ l) : RowsAt (V.putObj l o) g G := (World.putObj_heap_other hl).trans h
/-- A store of a whole set into the first result, then of a flag into the second. -/
theorem two_results {V : World} {b : Nat} {G0 : Nat → Nat} {u : Bool} (G : Nat → Nat) (r : RowsAt V b G0) (c : V.cell? ⟨b + 1, 0, none⟩ = some (.bool u)) (f : V.frozen? ⟨b + 1, 0, none⟩ = false) :
    (storeCells ⟨b, 0, none⟩ (wArr G).toList).run Tryd.prog V = .ok () (V.setRow b (wArr G)) ∧ (wArr G).size = 160 ∧ (V.setRow b (wArr G)).cell? ⟨b + 1, 0, none⟩ = some (.bool u) ∧ (V.setRow b (wArr G)).frozen? ⟨b + 1, 0, none⟩ = false ∧
    ∀ v : Bool, RowsAt ((V.setRow b (wArr G)).setCell ⟨b + 1, 0, none⟩ (.bool v)) b G ∧ ((V.setRow b (wArr G)).setCell ⟨b + 1, 0, none⟩ (.bool v)).cell? ⟨b + 1, 0, none⟩ = some (.bool v) := by
  have e2 : (V.setRow b (wArr G)).heap[b + 1]? = V.heap[b + 1]? := setRow_other _ _ _ (by omega)
  have c2 := (World.cell?_of_block (w := V) (a := ⟨b + 1, 0, none⟩) e2).trans c
  have f2 := (World.frozen?_of_block (w := V) (a := ⟨b + 1, 0, none⟩) e2).trans f
  exact ⟨store59 _ r, wArr_size _, c2, f2, fun v => ⟨(r.setRow G).other (by simp) _, World.cell?_setCell_same _ _ _ c2⟩⟩
theorem cellsOf_world (P Q R S : Nat → Int) (n : Nat) {w w1 : World} (bw1 : Below ((w.alloc (.cells (wArr fun _ => 0) 151)).alloc (.cells #[.bool false] 4)).heap.size ((w.alloc (.cells (wArr fun _ => 0) 151)).alloc (.cells #[.bool false] 4)) w1) :
    RowsAt (w1.alloc (.cells (wArr fun _ => 0) 151)) w1.heap.size (fun _ => 0) ∧
    (storeCells ⟨w1.heap.size, 0, none⟩ (wArr (cellsG P Q R S n)).toList).run Tryd.prog (w1.alloc (.cells (wArr fun _ => 0) 151)) = .ok () ((w1.alloc (.cells (wArr fun _ => 0) 151)).setRow w1.heap.size (wArr (cellsG P Q R S n))) ∧
    (Instr.storeAt 151 (.pointer (some ⟨w1.heap.size, 0, none⟩)) (.agg (wArr (cellsG P Q R S n)))).run Tryd.prog (w1.alloc (.cells (wArr fun _ => 0) 151)) = .ok () ((w1.alloc (.cells (wArr fun _ => 0) 151)).setRow w1.heap.size (wArr (cellsG P Q R S n))) ∧
    (wArr (cellsG P Q R S n)).size = 160 ∧
    Below w1.heap.size w1 ((w1.alloc (.cells (wArr fun _ => 0) 151)).setRow w1.heap.size (wArr (cellsG P Q R S n))) ∧
    RowsAt ((w1.alloc (.cells (wArr fun _ => 0) 151)).setRow w1.heap.size (wArr (cellsG P Q R S n))) w.heap.size (fun _ => 0) ∧
    (storeCells ⟨w.heap.size, 0, none⟩ (wArr fun _ => 0).toList).run Tryd.prog ((w1.alloc (.cells (wArr fun _ => 0) 151)).setRow w1.heap.size (wArr (cellsG P Q R S n))) = .ok () (((w1.alloc (.cells (wArr fun _ => 0) 151)).setRow w1.heap.size (wArr (cellsG P Q R S n))).setRow w.heap.size (wArr fun _ => 0)) ∧
    (wArr (fun _ => 0)).size = 160 ∧
    (((w1.alloc (.cells (wArr fun _ => 0) 151)).setRow w1.heap.size (wArr (cellsG P Q R S n))).setRow w.heap.size (wArr fun _ => 0)).cell? ⟨w.heap.size + 1, 0, none⟩ = some (.bool false) ∧
    (((w1.alloc (.cells (wArr fun _ => 0) 151)).setRow w1.heap.size (wArr (cellsG P Q R S n))).setRow w.heap.size (wArr fun _ => 0)).frozen? ⟨w.heap.size + 1, 0, none⟩ = false ∧
    Below w.heap.size w ((w1.alloc (.cells (wArr fun _ => 0) 151)).setRow w1.heap.size (wArr (cellsG P Q R S n))) := by
  have hs := bw1.size
  simp at hs
  have r3 := RowsAt.new w1 (fun _ => 0)
  have hb3 : Below w1.heap.size w1 ((w1.alloc (.cells (wArr fun _ => 0) 151)).setRow w1.heap.size (wArr (cellsG P Q R S n))) := ((Below.refl _ _).alloc (Nat.le_refl _) _).trans (below_setRow _ _ (Nat.le_refl _))
  have r0 : RowsAt w1 w.heap.size (fun _ => 0) := RowsAt.ext (RowsAt.ext (RowsAt.new w (fun _ => 0)) ((Below.refl _ _).alloc (Nat.le_refl _) (.cells #[.bool false] 4))) bw1
  have r5 := r0.ext hb3
  have c1 : w1.cell? ⟨w.heap.size + 1, 0, none⟩ = some (.bool false) := keepC bw1 (by simp [go_sem])
  have f1 : w1.frozen? ⟨w.heap.size + 1, 0, none⟩ = false := (bw1.frozen (p := ⟨w.heap.size + 1, 0, none⟩) (show w.heap.size + 1 < _ by simp)).trans (by simp [go_sem])
  have e2 : (((w1.alloc (.cells (wArr fun _ => 0) 151)).setRow w1.heap.size (wArr (cellsG P Q R S n))).setRow w.heap.size (wArr fun _ => 0)).heap[w.heap.size + 1]? = w1.heap[w.heap.size + 1]? := (setRow_other _ _ _ (by omega)).trans (hb3.block _ (by omega))
  exact ⟨r3, store59 _ r3, storeAt59 _ r3, wArr_size _, hb3, r5, store59 _ r5, wArr_size _, (World.cell?_of_block (w := w1) (a := ⟨w.heap.size + 1, 0, none⟩) e2).trans c1, (World.frozen?_of_block (w := w1) (a := ⟨w.heap.size + 1, 0, none⟩) e2).trans f1, (Below.trans (by (repeat (first | (with_reducible exact Below.refl _ _) | (with_reducible refine Ext.drewN ?_ _) | (with_reducible refine Below.drew ?_) | (with_reducible refine Ext.alloc ?_ _) | (with_reducible refine Ext.setCell ?_ (by simp; try omega) _) | (with_reducible refine Ext.trans ?_ (by assumption)) | (with_reducible assumption) | exact Below.refl _ _))) (bw1.mono (by simp))).trans (hb3.mono (by omega))⟩

set_option maxRecDepth 100000 in
set_option maxHeartbeats 8000000 in
theorem cellsOf_any (m : Option Addr) (n cap : Nat) (P Q R S : Nat → Int) (w : World) (hn : n ≤ 1048576) (hcap : n ≤ cap) (hD : EnvW w) (hR : RectsIs w.heap.size w m n P Q R S) :
    Calls Tryd.prog 108 #[.slice m n cap] w fun e w' => e = .returned (.tuple #[.agg (wArr (regG P Q R S n)), .bool (okR P Q R S n)]) ∧ Below w.heap.size w w' := by
  refine calls_of_marks Tryd.func108 rfl ?_
  simp only [Tryd.ntmps108, List.size_toArray, List.length_cons, List.length_nil, Nat.reduceAdd, Nat.reduceSub, Array.replicate_succ, Array.replicate_zero, List.push_toArray, List.append_toArray, List.nil_append, List.cons_append]
  have hz := zero59
  cases hok : okN P Q R S n with
  | false =>
    rw [okR_f hok]
    go_wp2_with (first | (go_at_call 131; refine (cells_any m n cap P Q R S _ (hD.chip.ext (by (repeat (first | (with_reducible exact Below.refl _ _) | (with_reducible refine Ext.drewN ?_ _) | (with_reducible refine Below.drew ?_) | (with_reducible refine Ext.alloc ?_ _) | (with_reducible refine Ext.setCell ?_ (by simp; try omega) _) | (with_reducible refine Ext.trans ?_ (by assumption)) | (with_reducible assumption) | exact Below.refl _ _)))) hn hcap (hR.ext (by (repeat (first | (with_reducible exact Below.refl _ _) | (with_reducible refine Ext.drewN ?_ _) | (with_reducible refine Below.drew ?_) | (with_reducible refine Ext.alloc ?_ _) | (with_reducible refine Ext.setCell ?_ (by simp; try omega) _) | (with_reducible refine Ext.trans ?_ (by assumption)) | (with_reducible assumption) | exact Below.refl _ _))))).mono ?_; rintro e w1 ⟨rfl, bw1⟩; rw [hok]; have HB := cellsOf_world P Q R S n bw1; obtain ⟨r3, st3, st4, sz3, hb3, r5, st5, sz5, c6, f6, b6⟩ := HB))
    have hg : regG P Q R S n = fun _ => 0 := by unfold regG; rw [okR_f hok]; rfl
    rw [hg]
    have r9 : RowsAt ((((w1.alloc (.cells (wArr fun _ => 0) 151)).setRow w1.heap.size (wArr (cellsG P Q R S n))).setRow w.heap.size (wArr fun _ => 0)).setCell ⟨w.heap.size + 1, 0, none⟩ (.bool false)) w.heap.size (fun _ => 0) := (r5.setRow _).other (by simp) _
    have c9 := World.cell?_setCell_same _ ⟨w.heap.size + 1, 0, none⟩ (.bool false) c6
    refine ⟨.tuple #[.agg (wArr fun _ => 0), .bool false], by rw [results_two rfl]; simp [asAddr, Result.andThen, loadVar59 r9]; simp [go_sem, c9], rfl, ?_⟩
    exact (b6.trans (below_setRow _ _ (Nat.le_refl _))).setCell (p := ⟨w.heap.size + 1, 0, none⟩) (by simp) _
  | true =>
    rw [okR_t hok]
    have HOK := Lib.hid hok
    go_wp2_with (first | (go_at_call 131; refine (cells_any m n cap P Q R S _ (hD.chip.ext (by (repeat (first | (with_reducible exact Below.refl _ _) | (with_reducible refine Ext.drewN ?_ _) | (with_reducible refine Below.drew ?_) | (with_reducible refine Ext.alloc ?_ _) | (with_reducible refine Ext.setCell ?_ (by simp; try omega) _) | (with_reducible refine Ext.trans ?_ (by assumption)) | (with_reducible assumption) | exact Below.refl _ _)))) hn hcap (hR.ext (by (repeat (first | (with_reducible exact Below.refl _ _) | (with_reducible refine Ext.drewN ?_ _) | (with_reducible refine Below.drew ?_) | (with_reducible refine Ext.alloc ?_ _) | (with_reducible refine Ext.setCell ?_ (by simp; try omega) _) | (with_reducible refine Ext.trans ?_ (by assumption)) | (with_reducible assumption) | exact Below.refl _ _))))).mono ?_; rintro e w1 ⟨rfl, bw1⟩; rw [hok]; have HB := cellsOf_world P Q R S n bw1; obtain ⟨r3, st3, st4, sz3, hb3, r5, st5, sz5, c6, f6, b6⟩ := HB) | (go_at_call 132; refine (region_any _ _).mono ?_; rintro e w4 ⟨rfl, hw4⟩; subst hw4))
    have bw : Below w.heap.size w w1 := Below.trans (by (repeat (first | (with_reducible exact Below.refl _ _) | (with_reducible refine Ext.drewN ?_ _) | (with_reducible refine Below.drew ?_) | (with_reducible refine Ext.alloc ?_ _) | (with_reducible refine Ext.setCell ?_ (by simp; try omega) _) | (with_reducible refine Ext.trans ?_ (by assumption)) | (with_reducible assumption) | exact Below.refl _ _))) (bw1.mono (by simp))
    have l1 : w.heap.size + 1 < w1.heap.size := by have := bw1.size; simp at this; omega
    have c3 : ((w1.alloc (.cells (wArr fun _ => 0) 151)).setRow w1.heap.size (wArr (cellsG P Q R S n))).cell? ⟨w.heap.size + 1, 0, none⟩ = some (.bool false) := (hb3.cell (p := ⟨w.heap.size + 1, 0, none⟩) l1).trans (keepC bw1 (by simp [go_sem]))
    have f3 : ((w1.alloc (.cells (wArr fun _ => 0) 151)).setRow w1.heap.size (wArr (cellsG P Q R S n))).frozen? ⟨w.heap.size + 1, 0, none⟩ = false := (hb3.frozen (p := ⟨w.heap.size + 1, 0, none⟩) l1).trans ((bw1.frozen (p := ⟨w.heap.size + 1, 0, none⟩) (show w.heap.size + 1 < _ by simp)).trans (by simp [go_sem]))
    clear st5 sz5 c6 f6 b6
    have hcg : cellsG P Q R S n = rowsG (rowsQ n P Q R S n) := by unfold cellsG; rw [hok]; rfl
    have hv : ∀ i, i < n → rvB (P i) (Q i) (R i) (S i) = true := fun i hi => by
      unfold okN at hok
      simp only [Bool.and_eq_true] at hok
      exact allV_at hok.2 hi
    have r4 := r3.setRow (cellsG P Q R S n)
    obtain ⟨w3, hw3⟩ : ∃ w3, w3 = (w1.alloc (.cells (wArr fun _ => 0) 151)).setRow w1.heap.size (wArr (cellsG P Q R S n)) := ⟨_, rfl⟩
    rw [← hw3] at hb3 c3 f3 r4 r5 ⊢
    have s3 : w3.heap.size = w1.heap.size + 1 := by rw [hw3, setRow_size]; simp
    obtain ⟨wS, hwS⟩ : ∃ wS, wS = (w3.alloc (.cells #[.slice m n cap] 105)).alloc (.cells #[.pointer (some ⟨w1.heap.size, 0, none⟩)] 207) := ⟨_, rfl⟩
    have bS : Below w3.heap.size w3 wS := by rw [hwS]; (repeat (first | (with_reducible exact Below.refl _ _) | (with_reducible refine Ext.drewN ?_ _) | (with_reducible refine Below.drew ?_) | (with_reducible refine Ext.alloc ?_ _) | (with_reducible refine Ext.setCell ?_ (by simp; try omega) _) | (with_reducible refine Ext.trans ?_ (by assumption)) | (with_reducible assumption) | exact Below.refl _ _))
    have sS : wS.heap.size = w1.heap.size + 3 := by rw [hwS]; simp [s3]
    have cB5 : wS.cell? ⟨w3.heap.size, 0, none⟩ = some (.slice m n cap) := by rw [hwS]; simp [go_sem]
    have fB5 : wS.frozen? ⟨w3.heap.size, 0, none⟩ = false := by rw [hwS]; simp [go_sem]
    have cB6 : wS.cell? ⟨w3.heap.size + 1, 0, none⟩ = some (.pointer (some ⟨w1.heap.size, 0, none⟩)) := by rw [hwS]; simp [go_sem]
    have c4 := (bS.cell (p := ⟨w.heap.size + 1, 0, none⟩) (show w.heap.size + 1 < w3.heap.size by omega)).trans c3
    have f4 := (bS.frozen (p := ⟨w.heap.size + 1, 0, none⟩) (show w.heap.size + 1 < w3.heap.size by omega)).trans f3
    have r6 := r5.ext bS
    clear r5
    have r5 := r4.ext bS
    have bwS : Below w.heap.size w wS := (bw.trans (hb3.mono (by omega))).trans (bS.mono (by omega))
    have RS := Lib.hid (hR.below bwS)
    have DS := Lib.hid (hD.ext bwS)
    have hdz := hD.deb.size
    rw [← hwS]
    simp only [s3] at cB5 fB5 cB6 ⊢
    have HCG := Lib.hid hcg
    clear hcg hwS hw3 hb3 st3 st4 sz3 c3 f3 r3 r4 bS
    refine rangeX2 (gf := 152) (lb := #[.pointer (some ⟨w1.heap.size + 1 + 1, 0, none⟩)]) rfl (enters_of Tryd.func152 (by kernel_rfl) rfl) (encs := fun r : R4 => #[.agg #[.int .i64 r.a, .int .i64 r.b, .int .i64 r.c, .int .i64 r.d]]) (L := canonL (covF P Q R S n)) (fun k => k = w.heap.size ∨ k = w.heap.size + 1 ∨ k = w1.heap.size + 1) (fun k hk => by omega) ?hseq (fun _ => rfl)
      (fun ps V => (∃ a' c', V.cell? ⟨w1.heap.size + 1, 0, none⟩ = some (.slice a' (n - ps.length) c') ∧ V.frozen? ⟨w1.heap.size + 1, 0, none⟩ = false ∧ ps.length ≤ n ∧ n - ps.length ≤ c' ∧ ps = (listR P Q R S n).take ps.length ∧ RectsIs w.heap.size V a' (n - ps.length) (shN ps.length P) (shN ps.length Q) (shN ps.length R) (shN ps.length S)) ∧
        V.cell? ⟨w.heap.size + 1, 0, none⟩ = some (.bool false) ∧ V.frozen? ⟨w.heap.size + 1, 0, none⟩ = false ∧ Below w.heap.size w V ∧ RowsAt V w.heap.size (fun _ => 0) ∧ RowsAt V w1.heap.size (cellsG P Q R S n))
      (fun c ps V => c = .ret ∧ canonL (covF P Q R S n) ≠ listR P Q R S n ∧ V.cell? ⟨w.heap.size + 1, 0, none⟩ = some (.bool false) ∧ Below w.heap.size w V ∧ RowsAt V w.heap.size (fun _ => 0))
      (fun s A B hs hb => by
        obtain ⟨⟨a', c', t1, t2, t3, t4, t5, t6⟩, t7, t8, t9, t10, t11⟩ := hs
        exact ⟨⟨a', c', (hb.cell (p := ⟨w1.heap.size + 1, 0, none⟩) (show w1.heap.size + 1 < wS.heap.size by omega)).trans t1, (hb.frozen (p := ⟨w1.heap.size + 1, 0, none⟩) (show w1.heap.size + 1 < wS.heap.size by omega)).trans t2, t3, t4, t5, t6.below (hb.mono (by omega))⟩, (hb.cell (p := ⟨w.heap.size + 1, 0, none⟩) (show w.heap.size + 1 < wS.heap.size by omega)).trans t7, (hb.frozen (p := ⟨w.heap.size + 1, 0, none⟩) (show w.heap.size + 1 < wS.heap.size by omega)).trans t8, t9.trans (hb.mono (by omega)), t10.below hb (by omega), t11.below hb (by omega)⟩)
      (fun c s A B hs hb => ⟨hs.1, hs.2.1, (hb.cell (p := ⟨w.heap.size + 1, 0, none⟩) (show w.heap.size + 1 < wS.heap.size by omega)).trans hs.2.2.1, hs.2.2.2.1.trans (hb.mono (by omega)), hs.2.2.2.2.below hb (by omega)⟩)
      ⟨⟨m, cap, cB5, fB5, Nat.zero_le _, hcap, rfl, by simp only [List.length_nil, shN_zero, Nat.sub_zero]; exact RS.out⟩, c4, f4, bwS, r6, r5⟩
      (fun T r Bx => (T.setIfInBounds 18 (.agg #[.int .i64 r.a, .int .i64 r.b, .int .i64 r.c, .int .i64 r.d])).setIfInBounds 7 (.pointer (some ⟨Bx, 0, none⟩))) (fun r => .cells #[.int .i64 r.a, .int .i64 r.b, .int .i64 r.c, .int .i64 r.d] 142) ?assign ?body ?done ?stop
    case hseq =>
      intro V hV hVs
      refine region_seq _ (w1.heap.size + 1 + 1) w1.heap.size (covF P Q R S n) (cellsG P Q R S n) V ((hV.cell (p := ⟨w1.heap.size + 1 + 1, 0, none⟩) (show w1.heap.size + 1 + 1 < wS.heap.size by omega)).trans cB6) (r5.ext hV) (by rw [HCG.out]; exact rows_of_list (Nat.le_refl _) hv) (DS.out.deb.ext hV) (by omega) (by omega) (by omega) (fun k hk => by omega)
    case assign =>
      intro l r V K hK
      gi_wp2
      exact hK
    case body =>
      rintro l ps r post Bx V hL hBx hVB ⟨⟨a', c', t1, t2, t3, t4, t5, t6⟩, t7, t8, t9, t10, t11⟩
      obtain ⟨k, hk⟩ : ∃ k, k = ps.length := ⟨_, rfl⟩
      obtain ⟨d, hd⟩ : ∃ d, d = n - ps.length := ⟨_, rfl⟩
      rw [← hd] at t1 t4 t6
      rw [← hk] at t3 t5 t6 hd
      have HL := Lib.hid hL
      have hlk : (canonL (covF P Q R S n))[k]? = some r := by rw [hL, hk]; simp
      have hVs : Bx < V.heap.size := (Array.getElem?_eq_some_iff.1 hVB).1
      have p0 : V.cell? ⟨Bx, 0, none⟩ = some (.int .i64 r.a) := by rw [cell_of_row _ _ 0 _ _ _ hVB]; rfl
      have p1 : V.cell? ⟨Bx, 1, none⟩ = some (.int .i64 r.b) := by rw [cell_of_row _ _ 1 _ _ _ hVB]; rfl
      have p2 : V.cell? ⟨Bx, 2, none⟩ = some (.int .i64 r.c) := by rw [cell_of_row _ _ 2 _ _ _ hVB]; rfl
      have p3 : V.cell? ⟨Bx, 3, none⟩ = some (.int .i64 r.d) := by rw [cell_of_row _ _ 3 _ _ _ hVB]; rfl
      have hmix : Tryd.prog.follows .mixedOrders = true := by kernel_rfl
      have kc : ∀ w', Kept (fun _ => False) V w' → ∀ g o v, V.cell? ⟨g, o, none⟩ = some v → w'.cell? ⟨g, o, none⟩ = some v := fun w' h9 g o v hv9 => (h9.cell (p := ⟨g, o, none⟩) (World.block_lt_of_cell? V ⟨g, o, none⟩ hv9) (fun h => h)).trans hv9
      have hS : Kept (fun _ => False) V V.drew := (Kept.refl _ V).drew
      have HVB := Lib.hid hVB
      obtain ⟨n1, n2, n3, n4, n5⟩ := two_results (V := V.drew) (fun _ => 0) t10 t7 t8
      have T10 := Lib.hid t10
      have T11 := Lib.hid t11
      have N5 := Lib.hid (n5 false)
      clear t10 t11 n5
      have HT5 := Lib.hid t5
      have HDK := Lib.hid (And.intro hd hk)
      clear hL hVB t5 hd hk
      dsimp only
      gi_wp2
      by_cases hd0 : d = 0
      · have hne : canonL (covF P Q R S n) ≠ listR P Q R S n := fun e => by
          have h1 := (List.getElem?_eq_some_iff.1 hlk).1
          rw [e, listR_len] at h1
          have := HDK.out.1
          omega
        subst hd0
        have HNE := Lib.hid hne
        have HLK := Lib.hid hlk
        clear hne hlk
        refine regionR (S := fun w' => Kept (fun _ => False) V w') hmix ?_
        refine takeR (i := 0) (.slice a' 0 c') rfl (by kernel_rfl) (by kernel_rfl) (by kernel_rfl) (by kernel_rfl) (fun _ _ _ h => h) (by rfl) ?_ (fun _ => rfl) hS ?_
        · intro w' h9
          simp [go_sem, Act.put, kc w' h9 _ _ _ t1]
        simp only [go_sem, Act.put, List.getElem_toArray, List.getElem_cons_succ, List.getElem_cons_zero, List.setIfInBounds_toArray, List.set_cons_succ, List.set_cons_zero]
        refine takeR (i := 1) (.int .i64 0) rfl (by kernel_rfl) (by kernel_rfl) (by kernel_rfl) (by kernel_rfl) (fun _ _ _ h => h) (by rfl) ?_ (fun _ => rfl) hS ?_
        · intro w' h9
          simp [go_sem, Act.put]
        simp only [go_sem, Act.put, List.getElem_toArray, List.getElem_cons_succ, List.getElem_cons_zero, List.setIfInBounds_toArray, List.set_cons_succ, List.set_cons_zero]
        refine takeR (i := 2) (.bool true) rfl (by kernel_rfl) (by kernel_rfl) (by kernel_rfl) (by kernel_rfl) (fun _ _ _ h => h) (by rfl) ?_ (fun _ => rfl) hS ?_
        · intro w' h9
          simp [go_sem, Act.put]
        simp only [go_sem, Act.put, List.getElem_toArray, List.getElem_cons_succ, List.getElem_cons_zero, List.setIfInBounds_toArray, List.set_cons_succ, List.set_cons_zero]
        refine takeR (i := 3) (.bool true) rfl (by kernel_rfl) (by kernel_rfl) (by kernel_rfl) (by kernel_rfl) (fun _ _ _ h => h) (by rfl) ?_ (fun _ => rfl) hS ?_
        · intro w' h9
          simp [go_sem, Act.put]
        simp only [go_sem, Act.put, List.getElem_toArray, List.getElem_cons_succ, List.getElem_cons_zero, List.setIfInBounds_toArray, List.set_cons_succ, List.set_cons_zero]
        refine passR (i := 4) rfl (by kernel_rfl) (by kernel_rfl) (by kernel_rfl) (by kernel_rfl) (fun _ _ _ h => h) (by simp [go_sem, Region.wanted, yielded]) (fun _ => rfl) hS ?_
        simp only [go_sem, Act.put, List.getElem_toArray, List.getElem_cons_succ, List.getElem_cons_zero, List.setIfInBounds_toArray, List.set_cons_succ, List.set_cons_zero]
        refine passR (i := 5) rfl (by kernel_rfl) (by kernel_rfl) (by kernel_rfl) (by kernel_rfl) (fun _ _ _ h => h) (by simp [go_sem, Region.wanted, yielded]) (fun _ => rfl) hS ?_
        simp only [go_sem, Act.put, List.getElem_toArray, List.getElem_cons_succ, List.getElem_cons_zero, List.setIfInBounds_toArray, List.set_cons_succ, List.set_cons_zero]
        refine passR (i := 6) rfl (by kernel_rfl) (by kernel_rfl) (by kernel_rfl) (by kernel_rfl) (fun _ _ _ h => h) (by simp [go_sem, Region.wanted, yielded]) (fun _ => rfl) hS ?_
        simp only [go_sem, Act.put, List.getElem_toArray, List.getElem_cons_succ, List.getElem_cons_zero, List.setIfInBounds_toArray, List.set_cons_succ, List.set_cons_zero]
        refine passR (i := 7) rfl (by kernel_rfl) (by kernel_rfl) (by kernel_rfl) (by kernel_rfl) (fun _ _ _ h => h) (by simp [go_sem, Region.wanted, yielded]) (fun _ => rfl) hS ?_
        simp only [go_sem, Act.put, List.getElem_toArray, List.getElem_cons_succ, List.getElem_cons_zero, List.setIfInBounds_toArray, List.set_cons_succ, List.set_cons_zero]
        refine passR (i := 8) rfl (by kernel_rfl) (by kernel_rfl) (by kernel_rfl) (by kernel_rfl) (fun _ _ _ h => h) (by simp [go_sem, Region.wanted, yielded]) (fun _ => rfl) hS ?_
        simp only [go_sem, Act.put, List.getElem_toArray, List.getElem_cons_succ, List.getElem_cons_zero, List.setIfInBounds_toArray, List.set_cons_succ, List.set_cons_zero]
        refine takeR (i := 9) (.bool true) rfl (by kernel_rfl) (by kernel_rfl) (by kernel_rfl) (by kernel_rfl) (fun _ _ _ h => h) (by rfl) ?_ (fun _ => rfl) hS ?_
        · intro w' h9
          simp [go_sem, Act.put]
        simp only [go_sem, Act.put, List.getElem_toArray, List.getElem_cons_succ, List.getElem_cons_zero, List.setIfInBounds_toArray, List.set_cons_succ, List.set_cons_zero]
        refine doneR (by kernel_rfl) ?_ _
        clear kc hS
        gi_wp2
        exact ⟨(((Kept.refl (fun k => k = w.heap.size ∨ k = w.heap.size + 1 ∨ k = w1.heap.size + 1) V).drew).setRow (g := w.heap.size) (.inl rfl) _).setCell (p := ⟨w.heap.size + 1, 0, none⟩) (.inr (.inl rfl)) _, rfl, HNE.out, N5.out.2, (t9.drew.trans (below_setRow _ _ (Nat.le_refl _))).setCell (p := ⟨w.heap.size + 1, 0, none⟩) (by simp) _, N5.out.1⟩
      · obtain ⟨b1, o1, rfl, hb1, d0, d1, d2, d3⟩ := t6 0 (by omega)
        have e0 : ∀ f : Nat → Int, shN k f 0 = f k := fun f => by unfold shN; rw [Nat.add_zero]
        simp only [e0, Nat.zero_mul, Nat.add_zero] at d0 d1 d2 d3
        have hkn : k < n := by have := HDK.out.1; omega
        have HLK := Lib.hid hlk
        clear hlk
        have hz0 : (((d : Nat) : Int) == 0) = false := by simp; omega
        have hz1 : ¬ ((d : Nat) : Int) = 0 := by omega
        have hz2 : (0 : Int) < ((d : Nat) : Int) := by omega
        have heq := eqRc (P k) (Q k) (R k) (S k) r.a r.b r.c r.d
        have T6 := Lib.hid t6
        clear t6
        cases hE : eqRB (P k) (Q k) (R k) (S k) r.a r.b r.c r.d with
        | false =>
          have hne : canonL (covF P Q R S n) ≠ listR P Q R S n := fun e => by
            have h9 := HLK.out
            rw [e, listR_get P Q R S n k hkn] at h9
            exact eqR_f hE (Option.some.inj h9)
          rw [hE] at heq
          have HNE := Lib.hid hne
          clear hE hne
          refine regionR (S := fun w' => Kept (fun _ => False) V w') hmix ?_
          refine takeR (i := 0) (.slice (some ⟨b1, o1, none⟩) d c') rfl (by kernel_rfl) (by kernel_rfl) (by kernel_rfl) (by kernel_rfl) (fun _ _ _ h => h) (by rfl) ?_ (fun _ => rfl) hS ?_
          · intro w' h9
            simp [go_sem, Act.put, kc w' h9 _ _ _ t1]
          simp only [go_sem, Act.put, List.getElem_toArray, List.getElem_cons_succ, List.getElem_cons_zero, List.setIfInBounds_toArray, List.set_cons_succ, List.set_cons_zero]
          refine takeR (i := 1) (.int .i64 (d : Int)) rfl (by kernel_rfl) (by kernel_rfl) (by kernel_rfl) (by kernel_rfl) (fun _ _ _ h => h) (by rfl) ?_ (fun _ => rfl) hS ?_
          · intro w' h9
            simp [go_sem, Act.put]
          simp only [go_sem, Act.put, List.getElem_toArray, List.getElem_cons_succ, List.getElem_cons_zero, List.setIfInBounds_toArray, List.set_cons_succ, List.set_cons_zero]
          refine takeR (i := 2) (.bool false) rfl (by kernel_rfl) (by kernel_rfl) (by kernel_rfl) (by kernel_rfl) (fun _ _ _ h => h) (by rfl) ?_ (fun _ => rfl) hS ?_
          · intro w' h9
            simp [go_sem, Act.put, hz0, hz1, hd0]
          simp only [go_sem, Act.put, List.getElem_toArray, List.getElem_cons_succ, List.getElem_cons_zero, List.setIfInBounds_toArray, List.set_cons_succ, List.set_cons_zero]
          refine takeR (i := 3) (.bool false) rfl (by kernel_rfl) (by kernel_rfl) (by kernel_rfl) (by kernel_rfl) (fun _ _ _ h => h) (by rfl) ?_ (fun _ => rfl) hS ?_
          · intro w' h9
            simp [go_sem, Act.put]
          simp only [go_sem, Act.put, List.getElem_toArray, List.getElem_cons_succ, List.getElem_cons_zero, List.setIfInBounds_toArray, List.set_cons_succ, List.set_cons_zero]
          refine takeR (i := 4) (.slice (some ⟨b1, o1, none⟩) d c') rfl (by kernel_rfl) (by kernel_rfl) (by kernel_rfl) (by kernel_rfl) (fun _ _ _ h => h) (by simp [go_sem, Region.wanted, yielded]) ?_ (fun _ => rfl) hS ?_
          · intro w' h9
            simp [go_sem, Act.put, kc w' h9 _ _ _ t1]
          simp only [go_sem, Act.put, List.getElem_toArray, List.getElem_cons_succ, List.getElem_cons_zero, List.setIfInBounds_toArray, List.set_cons_succ, List.set_cons_zero]
          refine takeR (i := 5) (.pointer (some ⟨b1, o1, none⟩)) rfl (by kernel_rfl) (by kernel_rfl) (by kernel_rfl) (by kernel_rfl) (fun _ _ _ h => h) (by simp [go_sem, Region.wanted, yielded]) ?_ (fun _ => rfl) hS ?_
          · intro w' h9
            simp [go_sem, Act.put, hz2, hz1, hd0]
          simp only [go_sem, Act.put, List.getElem_toArray, List.getElem_cons_succ, List.getElem_cons_zero, List.setIfInBounds_toArray, List.set_cons_succ, List.set_cons_zero]
          refine takeR (i := 6) (.agg #[.int .i64 (P k), .int .i64 (Q k), .int .i64 (R k), .int .i64 (S k)]) rfl (by kernel_rfl) (by kernel_rfl) (by kernel_rfl) (by kernel_rfl) (fun _ _ _ h => h) (by simp [go_sem, Region.wanted, yielded]) ?_ (fun _ => rfl) hS ?_
          · intro w' h9
            simp [go_sem, Act.put, kc w' h9 _ _ _ d0, kc w' h9 _ _ _ d1, kc w' h9 _ _ _ d2, kc w' h9 _ _ _ d3]
          simp only [go_sem, Act.put, List.getElem_toArray, List.getElem_cons_succ, List.getElem_cons_zero, List.setIfInBounds_toArray, List.set_cons_succ, List.set_cons_zero]
          refine takeR (i := 7) (.agg #[.int .i64 r.a, .int .i64 r.b, .int .i64 r.c, .int .i64 r.d]) rfl (by kernel_rfl) (by kernel_rfl) (by kernel_rfl) (by kernel_rfl) (fun _ _ _ h => h) (by simp [go_sem, Region.wanted, yielded]) ?_ (fun _ => rfl) hS ?_
          · intro w' h9
            simp [go_sem, Act.put, kc w' h9 _ _ _ p0, kc w' h9 _ _ _ p1, kc w' h9 _ _ _ p2, kc w' h9 _ _ _ p3]
          simp only [go_sem, Act.put, List.getElem_toArray, List.getElem_cons_succ, List.getElem_cons_zero, List.setIfInBounds_toArray, List.set_cons_succ, List.set_cons_zero]
          refine takeR (i := 8) (.bool true) rfl (by kernel_rfl) (by kernel_rfl) (by kernel_rfl) (by kernel_rfl) (fun _ _ _ h => h) (by simp [go_sem, Region.wanted, yielded]) ?_ (fun _ => rfl) hS ?_
          · intro w' h9
            simp [go_sem, Act.put, heq]
          simp only [go_sem, Act.put, List.getElem_toArray, List.getElem_cons_succ, List.getElem_cons_zero, List.setIfInBounds_toArray, List.set_cons_succ, List.set_cons_zero]
          refine takeR (i := 9) (.bool true) rfl (by kernel_rfl) (by kernel_rfl) (by kernel_rfl) (by kernel_rfl) (fun _ _ _ h => h) (by rfl) ?_ (fun _ => rfl) hS ?_
          · intro w' h9
            simp [go_sem, Act.put]
          simp only [go_sem, Act.put, List.getElem_toArray, List.getElem_cons_succ, List.getElem_cons_zero, List.setIfInBounds_toArray, List.set_cons_succ, List.set_cons_zero]
          refine doneR (by kernel_rfl) ?_ _
          clear kc hS heq
          gi_wp2
          exact ⟨(((Kept.refl (fun k => k = w.heap.size ∨ k = w.heap.size + 1 ∨ k = w1.heap.size + 1) V).drew).setRow (g := w.heap.size) (.inl rfl) _).setCell (p := ⟨w.heap.size + 1, 0, none⟩) (.inr (.inl rfl)) _, rfl, HNE.out, N5.out.2, (t9.drew.trans (below_setRow _ _ (Nat.le_refl _))).setCell (p := ⟨w.heap.size + 1, 0, none⟩) (by simp) _, N5.out.1⟩
        | true =>
          have hrk : (R4.mk (P k) (Q k) (R k) (S k)) = r := eqR_t hE
          have HRK := Lib.hid hrk
          clear hrk
          rw [hE] at heq
          clear hE
          refine regionR (S := fun w' => Kept (fun _ => False) V w') hmix ?_
          refine takeR (i := 0) (.slice (some ⟨b1, o1, none⟩) d c') rfl (by kernel_rfl) (by kernel_rfl) (by kernel_rfl) (by kernel_rfl) (fun _ _ _ h => h) (by rfl) ?_ (fun _ => rfl) hS ?_
          · intro w' h9
            simp [go_sem, Act.put, kc w' h9 _ _ _ t1]
          simp only [go_sem, Act.put, List.getElem_toArray, List.getElem_cons_succ, List.getElem_cons_zero, List.setIfInBounds_toArray, List.set_cons_succ, List.set_cons_zero]
          refine takeR (i := 1) (.int .i64 (d : Int)) rfl (by kernel_rfl) (by kernel_rfl) (by kernel_rfl) (by kernel_rfl) (fun _ _ _ h => h) (by rfl) ?_ (fun _ => rfl) hS ?_
          · intro w' h9
            simp [go_sem, Act.put]
          simp only [go_sem, Act.put, List.getElem_toArray, List.getElem_cons_succ, List.getElem_cons_zero, List.setIfInBounds_toArray, List.set_cons_succ, List.set_cons_zero]
          refine takeR (i := 2) (.bool false) rfl (by kernel_rfl) (by kernel_rfl) (by kernel_rfl) (by kernel_rfl) (fun _ _ _ h => h) (by rfl) ?_ (fun _ => rfl) hS ?_
          · intro w' h9
            simp [go_sem, Act.put, hz0, hz1, hd0]
          simp only [go_sem, Act.put, List.getElem_toArray, List.getElem_cons_succ, List.getElem_cons_zero, List.setIfInBounds_toArray, List.set_cons_succ, List.set_cons_zero]
          refine takeR (i := 3) (.bool false) rfl (by kernel_rfl) (by kernel_rfl) (by kernel_rfl) (by kernel_rfl) (fun _ _ _ h => h) (by rfl) ?_ (fun _ => rfl) hS ?_
          · intro w' h9
            simp [go_sem, Act.put]
          simp only [go_sem, Act.put, List.getElem_toArray, List.getElem_cons_succ, List.getElem_cons_zero, List.setIfInBounds_toArray, List.set_cons_succ, List.set_cons_zero]
          refine takeR (i := 4) (.slice (some ⟨b1, o1, none⟩) d c') rfl (by kernel_rfl) (by kernel_rfl) (by kernel_rfl) (by kernel_rfl) (fun _ _ _ h => h) (by simp [go_sem, Region.wanted, yielded]) ?_ (fun _ => rfl) hS ?_
          · intro w' h9
            simp [go_sem, Act.put, kc w' h9 _ _ _ t1]
          simp only [go_sem, Act.put, List.getElem_toArray, List.getElem_cons_succ, List.getElem_cons_zero, List.setIfInBounds_toArray, List.set_cons_succ, List.set_cons_zero]
          refine takeR (i := 5) (.pointer (some ⟨b1, o1, none⟩)) rfl (by kernel_rfl) (by kernel_rfl) (by kernel_rfl) (by kernel_rfl) (fun _ _ _ h => h) (by simp [go_sem, Region.wanted, yielded]) ?_ (fun _ => rfl) hS ?_
          · intro w' h9
            simp [go_sem, Act.put, hz2, hz1, hd0]
          simp only [go_sem, Act.put, List.getElem_toArray, List.getElem_cons_succ, List.getElem_cons_zero, List.setIfInBounds_toArray, List.set_cons_succ, List.set_cons_zero]
          refine takeR (i := 6) (.agg #[.int .i64 (P k), .int .i64 (Q k), .int .i64 (R k), .int .i64 (S k)]) rfl (by kernel_rfl) (by kernel_rfl) (by kernel_rfl) (by kernel_rfl) (fun _ _ _ h => h) (by simp [go_sem, Region.wanted, yielded]) ?_ (fun _ => rfl) hS ?_
          · intro w' h9
            simp [go_sem, Act.put, kc w' h9 _ _ _ d0, kc w' h9 _ _ _ d1, kc w' h9 _ _ _ d2, kc w' h9 _ _ _ d3]
          simp only [go_sem, Act.put, List.getElem_toArray, List.getElem_cons_succ, List.getElem_cons_zero, List.setIfInBounds_toArray, List.set_cons_succ, List.set_cons_zero]
          refine takeR (i := 7) (.agg #[.int .i64 r.a, .int .i64 r.b, .int .i64 r.c, .int .i64 r.d]) rfl (by kernel_rfl) (by kernel_rfl) (by kernel_rfl) (by kernel_rfl) (fun _ _ _ h => h) (by simp [go_sem, Region.wanted, yielded]) ?_ (fun _ => rfl) hS ?_
          · intro w' h9
            simp [go_sem, Act.put, kc w' h9 _ _ _ p0, kc w' h9 _ _ _ p1, kc w' h9 _ _ _ p2, kc w' h9 _ _ _ p3]
          simp only [go_sem, Act.put, List.getElem_toArray, List.getElem_cons_succ, List.getElem_cons_zero, List.setIfInBounds_toArray, List.set_cons_succ, List.set_cons_zero]
          refine takeR (i := 8) (.bool false) rfl (by kernel_rfl) (by kernel_rfl) (by kernel_rfl) (by kernel_rfl) (fun _ _ _ h => h) (by simp [go_sem, Region.wanted, yielded]) ?_ (fun _ => rfl) hS ?_
          · intro w' h9
            simp [go_sem, Act.put, heq]
          simp only [go_sem, Act.put, List.getElem_toArray, List.getElem_cons_succ, List.getElem_cons_zero, List.setIfInBounds_toArray, List.set_cons_succ, List.set_cons_zero]
          refine takeR (i := 9) (.bool false) rfl (by kernel_rfl) (by kernel_rfl) (by kernel_rfl) (by kernel_rfl) (fun _ _ _ h => h) (by rfl) ?_ (fun _ => rfl) hS ?_
          · intro w' h9
            simp [go_sem, Act.put]
          simp only [go_sem, Act.put, List.getElem_toArray, List.getElem_cons_succ, List.getElem_cons_zero, List.setIfInBounds_toArray, List.set_cons_succ, List.set_cons_zero]
          refine doneR (by kernel_rfl) ?_ _
          clear kc hS heq
          have q1 : (1 : Int) ≤ ((d : Nat) : Int) := by omega
          have q2 : ((d : Nat) : Int) ≤ (c' : Int) := by omega
          have hk1 : (ps ++ [r]).length = k + 1 := by rw [HDK.out.2]; simp
          have hps1 : ps ++ [r] = (listR P Q R S n).take (k + 1) := by
            rw [List.take_add_one, listR_get P Q R S n k hkn, HRK.out, ← HT5.out]; rfl
          have hkp : ∀ v, Kept (fun k => k = w.heap.size ∨ k = w.heap.size + 1 ∨ k = w1.heap.size + 1) V (V.drew.setCell ⟨w1.heap.size + 1, 0, none⟩ v) := fun v => ((Kept.refl _ V).drew).setCell (X := fun k => k = w.heap.size ∨ k = w.heap.size + 1 ∨ k = w1.heap.size + 1) (p := ⟨w1.heap.size + 1, 0, none⟩) (.inr (.inr rfl)) v
          have hbp : ∀ v, Below w.heap.size w (V.drew.setCell ⟨w1.heap.size + 1, 0, none⟩ v) := fun v => t9.drew.setCell (p := ⟨w1.heap.size + 1, 0, none⟩) (show w.heap.size ≤ w1.heap.size + 1 by omega) v
          have hdd : n - (k + 1) = d - 1 := by have := HDK.out.1; omega
          have T7 := T6.out.shift 1
          simp only [shN_shN] at T7
          have HT7 := Lib.hid (show RectsIs w.heap.size V (some ⟨b1, o1 + 4, none⟩) (d - 1) (shN (k + 1) P) (shN (k + 1) Q) (shN (k + 1) R) (shN (k + 1) S) from T7)
          have HK1 := Lib.hid hk1
          have HPS := Lib.hid hps1
          have HDD := Lib.hid hdd
          clear T7 hk1 hps1 hdd
          by_cases hc1 : 1 = c'
          · subst hc1
            have hd1 : d = 1 := by omega
            subst hd1
            gi_wp2
            refine ⟨hkp _, ⟨some ⟨b1, o1, none⟩, 0, ?_, by simp [go_sem, t2], by rw [HK1.out]; omega, by rw [HK1.out, HDD.out]; omega, by rw [HK1.out]; exact HPS.out, by rw [HK1.out, HDD.out]; exact RectsIs.zero⟩, by simp [go_sem, t7], by simp [go_sem, t8], hbp _, T10.out.other (by simp; omega) _, T11.out.other (by simp) _⟩
            rw [HK1.out, HDD.out]
            simp [go_sem, t1]
          · gi_wp2
            refine ⟨hkp _, ⟨some ⟨b1, o1 + 4, none⟩, c' - 1, ?_, by simp [go_sem, t2], by rw [HK1.out]; omega, by rw [HK1.out, HDD.out]; omega, by rw [HK1.out]; exact HPS.out, ?_⟩, by simp [go_sem, t7], by simp [go_sem, t8], hbp _, T10.out.other (by simp; omega) _, T11.out.other (by simp) _⟩
            · rw [HK1.out, HDD.out]
              simp [go_sem, t1]
            · rw [HK1.out, HDD.out]
              exact HT7.out.below ((Below.refl w.heap.size V).drew.setCell (p := ⟨w1.heap.size + 1, 0, none⟩) (show w.heap.size ≤ w1.heap.size + 1 by omega) _)
    case done =>
      rintro D V hDq ⟨⟨a', c', t1, t2, t3, t4, t5, t6⟩, t7, t8, t9, t10, t11⟩ hDV
      have hcl : decide (canonL (covF P Q R S n) = listR P Q R S n) = decide (n - (canonL (covF P Q R S n)).length = 0) := by
        rw [Bool.eq_iff_iff, decide_eq_true_eq, decide_eq_true_eq]
        constructor
        · intro e
          rw [e, listR_len]
          omega
        · intro e
          have h9 := t5
          rw [List.take_of_length_le (by rw [listR_len]; omega)] at h9
          exact h9
      obtain ⟨d, hd⟩ : ∃ d, d = n - (canonL (covF P Q R S n)).length := ⟨_, rfl⟩
      rw [← hd] at t1 hcl
      have HCL := Lib.hid hcl
      have hD0 : D ≠ w.heap.size := by omega
      have hD1 : D ≠ w.heap.size + 1 := by omega
      have hRG : Hid (regG P Q R S n = if decide (d = 0) = true then cellsG P Q R S n else fun _ => 0) := by
        unfold Hid regG
        rw [okR_t HOK.out, hcl, HCG.out]
      clear t5 t6 t4 hcl hd
      dsimp only
      by_cases hd0 : d = 0
      · subst hd0
        have HG := Lib.hid (show regG P Q R S n = cellsG P Q R S n by rw [hRG.out]; rfl)
        clear hRG
        obtain ⟨n1, n2, n3, n4, n5⟩ := two_results (cellsG P Q R S n) t10 t7 t8
        have T10 := Lib.hid t10
        have T11 := Lib.hid t11
        have N5 := Lib.hid (n5 true)
        clear t10 t11 n5
        go_upto_region 12 with fail
        refine wp_region_lit ?_
        unfold wpList
        rw [if_pos (by rfl)]
        refine .inl (op_load59 rfl rfl T11.out ?_)
        unfold wpList
        rw [if_pos (by rfl)]
        refine .inl (op_store59 (d := 2) (s := 36) (G := cellsG P Q R S n) ?_ ?_ ?_ T10.out ?_)
        · rfl
        · rfl
        · rfl
        simp only [go_sem, Act.put]
        go_wp2_with fail
        refine leaves_one (D := D) (v := .tuple #[.agg (wArr (cellsG P Q R S n)), .bool true]) ((Below.heap_setCell _ _ _ _ (by simp; omega)).trans ((setRow_other _ _ _ (by omega)).trans hDV)) (fun w' hw' => ?_)
        have r9 : RowsAt w' w.heap.size (cellsG P Q R S n) := by rw [hw']; exact N5.out.1.putObj _ (by omega)
        have c9 : w'.cell? ⟨w.heap.size + 1, 0, none⟩ = some (.bool true) := by
          rw [hw', World.cell?_of_block (w := (V.setRow w.heap.size (wArr (cellsG P Q R S n))).setCell ⟨w.heap.size + 1, 0, none⟩ (.bool true)) (World.putObj_heap_other (show w.heap.size + 1 ≠ D by omega))]
          exact N5.out.2
        refine ⟨by rw [results_two rfl]; simp [asAddr, Result.andThen, loadVar59 r9]; simp [go_sem, c9], by rw [HCL.out, HG.out]; rfl, ?_⟩
        rw [hw']
        exact ((t9.trans (below_setRow _ _ (Nat.le_refl _))).setCell (p := ⟨w.heap.size + 1, 0, none⟩) (by simp) _).trans (below_putObj _ _ (by omega))
      · have HG := Lib.hid (show regG P Q R S n = fun _ => 0 by rw [hRG.out, if_neg (by simpa using hd0)])
        have HD0 := Lib.hid (decide_eq_false hd0)
        clear hRG
        obtain ⟨n1, n2, n3, n4, n5⟩ := two_results (fun _ => 0) t10 t7 t8
        have T10 := Lib.hid t10
        have N5 := Lib.hid (n5 false)
        have q1 : (0 : Int) < (d : Int) := by omega
        clear t10 t11 n5
        go_wp2_with fail
        refine leaves_one (D := D) (v := .tuple #[.agg (wArr fun _ => 0), .bool false]) ((Below.heap_setCell _ _ _ _ (by simp; omega)).trans ((setRow_other _ _ _ (by omega)).trans hDV)) (fun w' hw' => ?_)
        have r9 : RowsAt w' w.heap.size (fun _ => 0) := by rw [hw']; exact N5.out.1.putObj _ (by omega)
        have c9 : w'.cell? ⟨w.heap.size + 1, 0, none⟩ = some (.bool false) := by
          rw [hw', World.cell?_of_block (w := (V.setRow w.heap.size (wArr fun _ => 0)).setCell ⟨w.heap.size + 1, 0, none⟩ (.bool false)) (World.putObj_heap_other (show w.heap.size + 1 ≠ D by omega))]
          exact N5.out.2
        refine ⟨by rw [results_two rfl]; simp [asAddr, Result.andThen, loadVar59 r9]; simp [go_sem, c9], by rw [HCL.out, HD0.out, HG.out], ?_⟩
        rw [hw']
        exact ((t9.trans (below_setRow _ _ (Nat.le_refl _))).setCell (p := ⟨w.heap.size + 1, 0, none⟩) (by simp) _).trans (below_putObj _ _ (by omega))
    case stop =>
      rintro D c ps V hDq hps ⟨rfl, hne, t7, t9, t10⟩ hDV
      have hD0 : D ≠ w.heap.size := by omega
      have HNE := Lib.hid (decide_eq_false hne)
      have HG : Hid (regG P Q R S n = fun _ => 0) := by
        unfold Hid regG
        rw [okR_t HOK.out, HNE.out]
        rfl
      clear hne
      dsimp only
      go_wp2_with fail
      refine leaves_one (D := D) (v := .tuple #[.agg (wArr fun _ => 0), .bool false]) hDV (fun w' hw' => ?_)
      have r9 : RowsAt w' w.heap.size (fun _ => 0) := by rw [hw']; exact t10.putObj _ (by omega)
      have c9 : w'.cell? ⟨w.heap.size + 1, 0, none⟩ = some (.bool false) := by
        rw [hw', World.cell?_of_block (w := V) (World.putObj_heap_other (show w.heap.size + 1 ≠ D by omega))]
        exact t7
      refine ⟨by rw [results_two rfl]; simp [asAddr, Result.andThen, loadVar59 r9]; simp [go_sem, c9], by rw [HNE.out, HG.out], ?_⟩
      rw [hw']
      exact t9.trans (below_putObj _ _ (by omega))

set_option maxHeartbeats 4000000 in
theorem isRegion_any (m : Option Addr) (n cap : Nat) (P Q R S : Nat → Int) (w : World) (hn : n ≤ 1048576) (hcap : n ≤ cap) (hD : EnvW w) (hR : RectsIs w.heap.size w m n P Q R S) :
    Calls Tryd.prog 75 #[.slice m n cap] w fun e w' => e = .returned (.bool (okR P Q R S n)) ∧ Below w.heap.size w w' := by
  have hz := zero59
  go_enter Tryd.func75, Tryd.ntmps75
  go_wp2_with (first | (go_at_call 108; refine (cellsOf_any m n cap P Q R S w hn hcap hD hR).mono ?_; rintro e w1 ⟨rfl, bw1⟩; have r3 := RowsAt.new w1 (fun _ => 0); have st3 := store59 (regG P Q R S n) r3; have st4 := storeAt59 (regG P Q R S n) r3; have sz3 := wArr_size (regG P Q R S n); have hb3 : Below w1.heap.size w1 ((w1.alloc (.cells (wArr fun _ => 0) 151)).setRow w1.heap.size (wArr (regG P Q R S n))) := ((Below.refl _ _).alloc (Nat.le_refl _) _).trans (below_setRow _ _ (Nat.le_refl _))))
  exact bodyPost_ret (v := .bool (okR P Q R S n)) (by simp [results, Tryd.results75, go_sem]) rfl ⟨rfl, Ext.trans bw1 hb3⟩
end Go.Proofs.YtciodcknobccdaaDoor
