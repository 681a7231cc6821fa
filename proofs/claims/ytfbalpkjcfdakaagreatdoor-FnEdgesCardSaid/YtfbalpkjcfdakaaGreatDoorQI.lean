/- The program's cellsOfRegion and IsRegion. Conditions: the elements' cells are in memory; the table of math/bits is in memory. -/
import Derived.Test.YtfbalpkjcfdakaaGreatDoorQH
import Derived.Test.YtfbalpkjcfdakaaGreatDoorQE
import Derived.Test.YtfbalpkjcfdakaaGreatDoorQD
import Derived.Lib.LaidTab
import Derived.Lib.LaidU8
import Derived.LaidMore
import Derived.Lay
import Derived.Stop.Joined
import Derived.Test.YtfbalpkjcfdakaaGreatDoorQA
import Derived.ProofKit
import Derived.OpenShut
import Derived.Deep.Slices
import Derived.Deep.Fields
namespace Go.Proofs.YtfbalpkjcfdakaaGreatDoor
open Go.RowKit Go.Shelf
set_option linter.unusedVariables false
set_option linter.unusedSimpArgs false
attribute [local go_sem] Oper.semAt_some

theorem store59 {W : World} {g : Nat} {G0 : Nat → Nat} (G : Nat → Nat) (h : RowsAt W g G0) : (storeCells ⟨g, 0, none⟩ (wArr G).toList 0).run Tryz.prog W = .ok () (W.setRow g (wArr G)) := by
  have hone : (wArr G).all (·.oneCell') = true := by
    rw [Array.all_eq_true]
    intro i hi
    simp [wArr, Value.oneCell']
  have := run_storeCells_from (P := Tryz.prog) g 86 (wArr G).toList 0 (wArr G0) W h (by simp [wArr_size]) (fun v hv => (Array.all_eq_true_iff_forall_mem.1 hone) v (by simpa using hv))
  rw [this]
  simp

/-- What the program's set says of the list. -/
theorem okR_f {P Q R S : Nat → Int} {n : Nat} (h : okN P Q R S n = false) : okR P Q R S n = false := by
  cases hr : okR P Q R S n with
  | false => rfl
  | true =>
    obtain ⟨h1, h2⟩ := (okR_iff P Q R S n).1 hr
    have := canonL_len' (covF P Q R S n)
    rw [h2, listR_len] at this
    unfold okN at h
    rw [decide_eq_true this, allV_t h1] at h
    cases h
theorem okR_t {P Q R S : Nat → Int} {n : Nat} (h : okN P Q R S n = true) : okR P Q R S n = decide (canonL (covF P Q R S n) = listR P Q R S n) := by
  unfold okN at h
  simp only [Bool.and_eq_true, decide_eq_true_eq] at h
  rw [Bool.eq_iff_iff, okR_iff, decide_eq_true_eq]
  exact ⟨fun h' => h'.2, fun h' => ⟨fun i hi => allV_at h.2 hi, h'⟩⟩

theorem shN_zero (f : Nat → Int) : shN 0 f = f := by funext i; unfold shN; rw [Nat.zero_add]
theorem shN_shN (a b : Nat) (f : Nat → Int) : shN b (shN a f) = shN (a + b) f := by funext i; unfold shN; rw [Nat.add_assoc]
theorem eqR_t {a b c d p q r s : Int} (h : eqRB a b c d p q r s = true) : R4.mk a b c d = R4.mk p q r s := by
  unfold eqRB at h
  simp only [Bool.and_eq_true, beq_iff_eq] at h
  obtain ⟨rfl, rfl, rfl, rfl⟩ := h
  rfl
theorem eqR_f {a b c d p q r s : Int} (h : eqRB a b c d p q r s = false) : R4.mk a b c d ≠ R4.mk p q r s := fun e => by
  cases e
  simp [eqRB] at h

/-- The words of a region, or none. -/
def regG (P Q R S : Nat → Int) (n : Nat) : Nat → Nat := if okR P Q R S n = true then rowsG (rowsQ n P Q R S n) else fun _ => 0
/-- The world in which the set has been stored, and what a store of no cells into the result does there. -/
theorem results_two {fn : Func} {p q : Tmp} {ty tz : TypeId} (h : fn.results = #[.cell p ty, .cell q tz]) (tmps : Array Value) (P : Program) (w : World) :
    (results fn tmps).run P w =
      ((asAddr (tmps.getD p undef)).run P w).andThen fun a w₁ => ((loadVar ty a).run P w₁).andThen fun v w₂ => ((asAddr (tmps.getD q undef)).run P w₂).andThen fun b w₃ => ((loadVar tz b).run P w₃).andThen fun u w₄ => .ok (.tuple #[v, u]) w₄ := by
  simp only [results, h]
  simp [Sem.run_bind, Result.andThen]
theorem RowsAt.other {V : World} {g : Nat} {G : Nat → Nat} (h : RowsAt V g G) {p : Addr} (hp : g ≠ p.block) (u : Value) : RowsAt (V.setCell p u) g G := (Below.heap_setCell _ _ _ _ hp).trans h
theorem RowsAt.putObj {V : World} {g l : Nat} {G : Nat → Nat} (h : RowsAt V g G) (o : Obj) (hl : g ≠ l) : RowsAt (V.putObj l o) g G := (World.putObj_heap_other hl).trans h
/-- A store of a whole set into the first result, then of a flag into the second. -/
theorem two_results {V : World} {b : Nat} {G0 : Nat → Nat} {u : Bool} (G : Nat → Nat) (r : RowsAt V b G0) (c : V.cell? ⟨b + 1, 0, none⟩ = some (.bool u)) (f : V.frozen? ⟨b + 1, 0, none⟩ = false) :
    (storeCells ⟨b, 0, none⟩ (wArr G).toList).run Tryz.prog V = .ok () (V.setRow b (wArr G)) ∧ (wArr G).size = 160 ∧ (V.setRow b (wArr G)).cell? ⟨b + 1, 0, none⟩ = some (.bool u) ∧ (V.setRow b (wArr G)).frozen? ⟨b + 1, 0, none⟩ = false ∧
    ∀ v : Bool, RowsAt ((V.setRow b (wArr G)).setCell ⟨b + 1, 0, none⟩ (.bool v)) b G ∧ ((V.setRow b (wArr G)).setCell ⟨b + 1, 0, none⟩ (.bool v)).cell? ⟨b + 1, 0, none⟩ = some (.bool v) := by
  have e2 : (V.setRow b (wArr G)).heap[b + 1]? = V.heap[b + 1]? := setRow_other _ _ _ (by omega)
  have c2 := (World.cell?_of_block (w := V) (a := ⟨b + 1, 0, none⟩) e2).trans c
  have f2 := (World.frozen?_of_block (w := V) (a := ⟨b + 1, 0, none⟩) e2).trans f
  exact ⟨store59 _ r, wArr_size _, c2, f2, fun v => ⟨(r.setRow G).other (by simp) _, World.cell?_setCell_same _ _ _ c2⟩⟩
theorem cellsOf_world (P Q R S : Nat → Int) (n : Nat) {w w1 : World} (bw1 : Below ((w.alloc (.cells (wArr fun _ => 0) 86)).alloc (.cells #[.bool false] 4)).heap.size ((w.alloc (.cells (wArr fun _ => 0) 86)).alloc (.cells #[.bool false] 4)) w1) :
    RowsAt (w1.alloc (.cells (wArr fun _ => 0) 86)) w1.heap.size (fun _ => 0) ∧
    (storeCells ⟨w1.heap.size, 0, none⟩ (wArr (cellsG P Q R S n)).toList).run Tryz.prog (w1.alloc (.cells (wArr fun _ => 0) 86)) = .ok () ((w1.alloc (.cells (wArr fun _ => 0) 86)).setRow w1.heap.size (wArr (cellsG P Q R S n))) ∧
    (Instr.storeAt 86 (.pointer (some ⟨w1.heap.size, 0, none⟩)) (.agg (wArr (cellsG P Q R S n)))).run Tryz.prog (w1.alloc (.cells (wArr fun _ => 0) 86)) = .ok () ((w1.alloc (.cells (wArr fun _ => 0) 86)).setRow w1.heap.size (wArr (cellsG P Q R S n))) ∧
    (wArr (cellsG P Q R S n)).size = 160 ∧
    Below w1.heap.size w1 ((w1.alloc (.cells (wArr fun _ => 0) 86)).setRow w1.heap.size (wArr (cellsG P Q R S n))) ∧
    RowsAt ((w1.alloc (.cells (wArr fun _ => 0) 86)).setRow w1.heap.size (wArr (cellsG P Q R S n))) w.heap.size (fun _ => 0) ∧
    (storeCells ⟨w.heap.size, 0, none⟩ (wArr fun _ => 0).toList).run Tryz.prog ((w1.alloc (.cells (wArr fun _ => 0) 86)).setRow w1.heap.size (wArr (cellsG P Q R S n))) = .ok () (((w1.alloc (.cells (wArr fun _ => 0) 86)).setRow w1.heap.size (wArr (cellsG P Q R S n))).setRow w.heap.size (wArr fun _ => 0)) ∧
    (wArr (fun _ => 0)).size = 160 ∧
    (((w1.alloc (.cells (wArr fun _ => 0) 86)).setRow w1.heap.size (wArr (cellsG P Q R S n))).setRow w.heap.size (wArr fun _ => 0)).cell? ⟨w.heap.size + 1, 0, none⟩ = some (.bool false) ∧
    (((w1.alloc (.cells (wArr fun _ => 0) 86)).setRow w1.heap.size (wArr (cellsG P Q R S n))).setRow w.heap.size (wArr fun _ => 0)).frozen? ⟨w.heap.size + 1, 0, none⟩ = false ∧
    Below w.heap.size w ((w1.alloc (.cells (wArr fun _ => 0) 86)).setRow w1.heap.size (wArr (cellsG P Q R S n))) := by
  have hs := bw1.size
  simp at hs
  have r3 := RowsAt.new w1 (fun _ => 0)
  have hb3 : Below w1.heap.size w1 ((w1.alloc (.cells (wArr fun _ => 0) 86)).setRow w1.heap.size (wArr (cellsG P Q R S n))) := ((Below.refl _ _).alloc (Nat.le_refl _) _).trans (below_setRow _ _ (Nat.le_refl _))
  have r0 : RowsAt w1 w.heap.size (fun _ => 0) := RowsAt.ext (RowsAt.ext (RowsAt.new w (fun _ => 0)) ((Below.refl _ _).alloc (Nat.le_refl _) (.cells #[.bool false] 4))) bw1
  have r5 := r0.ext hb3
  have c1 : w1.cell? ⟨w.heap.size + 1, 0, none⟩ = some (.bool false) := keepC bw1 (by simp [go_sem])
  have f1 : w1.frozen? ⟨w.heap.size + 1, 0, none⟩ = false := (bw1.frozen (p := ⟨w.heap.size + 1, 0, none⟩) (show w.heap.size + 1 < _ by simp)).trans (by simp [go_sem])
  have e2 : (((w1.alloc (.cells (wArr fun _ => 0) 86)).setRow w1.heap.size (wArr (cellsG P Q R S n))).setRow w.heap.size (wArr fun _ => 0)).heap[w.heap.size + 1]? = w1.heap[w.heap.size + 1]? := (setRow_other _ _ _ (by omega)).trans (hb3.block _ (by omega))
  exact ⟨r3, store59 _ r3, storeAt59 _ r3, wArr_size _, hb3, r5, store59 _ r5, wArr_size _, (World.cell?_of_block (w := w1) (a := ⟨w.heap.size + 1, 0, none⟩) e2).trans c1, (World.frozen?_of_block (w := w1) (a := ⟨w.heap.size + 1, 0, none⟩) e2).trans f1, (Below.trans (by (repeat (first | (with_reducible exact Below.refl _ _) | (with_reducible refine Ext.drewN ?_ _) | (with_reducible refine Below.drew ?_) | (with_reducible refine Ext.alloc ?_ _) | (with_reducible refine Ext.setCell ?_ (by simp; try omega) _) | (with_reducible refine Ext.trans ?_ (by assumption)) | (with_reducible assumption) | exact Below.refl _ _))) (bw1.mono (by simp))).trans (hb3.mono (by omega))⟩

set_option maxRecDepth 100000 in
set_option maxHeartbeats 8000000 in
theorem cellsOf_any (m : Option Addr) (n cap : Nat) (P Q R S : Nat → Int) (w : World) (hn : n ≤ 1048576) (hcap : n ≤ cap) (hD : EnvW w) (hR : RectsIs w.heap.size w m n P Q R S) :
    Calls Tryz.prog 120 #[.slice m n cap] w fun e w' => e = .returned (.tuple #[.agg (wArr (regG P Q R S n)), .bool (okR P Q R S n)]) ∧ Below w.heap.size w w' := by
  refine calls_of_marks Tryz.func120 rfl ?_
  simp only [Tryz.ntmps120, List.size_toArray, List.length_cons, List.length_nil, Nat.reduceAdd, Nat.reduceSub, Array.replicate_succ, Array.replicate_zero, List.push_toArray, List.append_toArray, List.nil_append, List.cons_append]
  have hz := zero59
  cases hok : okN P Q R S n with
  | false =>
    rw [okR_f hok]
    go_wp2_with (first | (go_at_call 147; refine (cells_any m n cap P Q R S _ (hD.chip.ext (by (repeat (first | (with_reducible exact Below.refl _ _) | (with_reducible refine Ext.drewN ?_ _) | (with_reducible refine Below.drew ?_) | (with_reducible refine Ext.alloc ?_ _) | (with_reducible refine Ext.setCell ?_ (by simp; try omega) _) | (with_reducible refine Ext.trans ?_ (by assumption)) | (with_reducible assumption) | exact Below.refl _ _)))) hn hcap (hR.ext (by (repeat (first | (with_reducible exact Below.refl _ _) | (with_reducible refine Ext.drewN ?_ _) | (with_reducible refine Below.drew ?_) | (with_reducible refine Ext.alloc ?_ _) | (with_reducible refine Ext.setCell ?_ (by simp; try omega) _) | (with_reducible refine Ext.trans ?_ (by assumption)) | (with_reducible assumption) | exact Below.refl _ _))))).mono ?_; rintro e w1 ⟨rfl, bw1⟩; rw [hok]; have HB := cellsOf_world P Q R S n bw1; obtain ⟨r3, st3, st4, sz3, hb3, r5, st5, sz5, c6, f6, b6⟩ := HB))
    have hg : regG P Q R S n = fun _ => 0 := by unfold regG; rw [okR_f hok]; rfl
    rw [hg]
    have r9 : RowsAt ((((w1.alloc (.cells (wArr fun _ => 0) 86)).setRow w1.heap.size (wArr (cellsG P Q R S n))).setRow w.heap.size (wArr fun _ => 0)).setCell ⟨w.heap.size + 1, 0, none⟩ (.bool false)) w.heap.size (fun _ => 0) := (r5.setRow _).other (by simp) _
    have c9 := World.cell?_setCell_same _ ⟨w.heap.size + 1, 0, none⟩ (.bool false) c6
    refine ⟨.tuple #[.agg (wArr fun _ => 0), .bool false], by rw [results_two rfl]; simp [asAddr, Result.andThen, loadVar59 r9]; simp [go_sem, c9], rfl, ?_⟩
    exact (b6.trans (below_setRow _ _ (Nat.le_refl _))).setCell (p := ⟨w.heap.size + 1, 0, none⟩) (by simp) _
  | true =>
    rw [okR_t hok]
    have HOK := Lib.hid hok
    go_wp2_with (first | (go_at_call 147; refine (cells_any m n cap P Q R S _ (hD.chip.ext (by (repeat (first | (with_reducible exact Below.refl _ _) | (with_reducible refine Ext.drewN ?_ _) | (with_reducible refine Below.drew ?_) | (with_reducible refine Ext.alloc ?_ _) | (with_reducible refine Ext.setCell ?_ (by simp; try omega) _) | (with_reducible refine Ext.trans ?_ (by assumption)) | (with_reducible assumption) | exact Below.refl _ _)))) hn hcap (hR.ext (by (repeat (first | (with_reducible exact Below.refl _ _) | (with_reducible refine Ext.drewN ?_ _) | (with_reducible refine Below.drew ?_) | (with_reducible refine Ext.alloc ?_ _) | (with_reducible refine Ext.setCell ?_ (by simp; try omega) _) | (with_reducible refine Ext.trans ?_ (by assumption)) | (with_reducible assumption) | exact Below.refl _ _))))).mono ?_; rintro e w1 ⟨rfl, bw1⟩; rw [hok]; have HB := cellsOf_world P Q R S n bw1; obtain ⟨r3, st3, st4, sz3, hb3, r5, st5, sz5, c6, f6, b6⟩ := HB) | (go_at_call 62; refine (region_any _ _).mono ?_; rintro e w4 ⟨rfl, hw4⟩; subst hw4))
    have bw : Below w.heap.size w w1 := Below.trans (by (repeat (first | (with_reducible exact Below.refl _ _) | (with_reducible refine Ext.drewN ?_ _) | (with_reducible refine Below.drew ?_) | (with_reducible refine Ext.alloc ?_ _) | (with_reducible refine Ext.setCell ?_ (by simp; try omega) _) | (with_reducible refine Ext.trans ?_ (by assumption)) | (with_reducible assumption) | exact Below.refl _ _))) (bw1.mono (by simp))
    have l1 : w.heap.size + 1 < w1.heap.size := by have := bw1.size; simp at this; omega
    have c3 : ((w1.alloc (.cells (wArr fun _ => 0) 86)).setRow w1.heap.size (wArr (cellsG P Q R S n))).cell? ⟨w.heap.size + 1, 0, none⟩ = some (.bool false) := (hb3.cell (p := ⟨w.heap.size + 1, 0, none⟩) l1).trans (keepC bw1 (by simp [go_sem]))
    have f3 : ((w1.alloc (.cells (wArr fun _ => 0) 86)).setRow w1.heap.size (wArr (cellsG P Q R S n))).frozen? ⟨w.heap.size + 1, 0, none⟩ = false := (hb3.frozen (p := ⟨w.heap.size + 1, 0, none⟩) l1).trans ((bw1.frozen (p := ⟨w.heap.size + 1, 0, none⟩) (show w.heap.size + 1 < _ by simp)).trans (by simp [go_sem]))
    clear st5 sz5 c6 f6 b6
    have hcg : cellsG P Q R S n = rowsG (rowsQ n P Q R S n) := by unfold cellsG; rw [hok]; rfl
    have hv : ∀ i, i < n → rvB (P i) (Q i) (R i) (S i) = true := fun i hi => by
      unfold okN at hok
      simp only [Bool.and_eq_true] at hok
      exact allV_at hok.2 hi
    have r4 := r3.setRow (cellsG P Q R S n)
    obtain ⟨w3, hw3⟩ : ∃ w3, w3 = (w1.alloc (.cells (wArr fun _ => 0) 86)).setRow w1.heap.size (wArr (cellsG P Q R S n)) := ⟨_, rfl⟩
    rw [← hw3] at hb3 c3 f3 r4 r5 ⊢
    have s3 : w3.heap.size = w1.heap.size + 1 := by rw [hw3, setRow_size]; simp
    obtain ⟨wS, hwS⟩ : ∃ wS, wS = (w3.alloc (.cells #[.slice m n cap] 26)).alloc (.cells #[.pointer (some ⟨w1.heap.size, 0, none⟩)] 143) := ⟨_, rfl⟩
    have bS : Below w3.heap.size w3 wS := by rw [hwS]; (repeat (first | (with_reducible exact Below.refl _ _) | (with_reducible refine Ext.drewN ?_ _) | (with_reducible refine Below.drew ?_) | (with_reducible refine Ext.alloc ?_ _) | (with_reducible refine Ext.setCell ?_ (by simp; try omega) _) | (with_reducible refine Ext.trans ?_ (by assumption)) | (with_reducible assumption) | exact Below.refl _ _))
    have sS : wS.heap.size = w1.heap.size + 3 := by rw [hwS]; simp [s3]
    have cB5 : wS.cell? ⟨w3.heap.size, 0, none⟩ = some (.slice m n cap) := by rw [hwS]; simp [go_sem]
    have fB5 : wS.frozen? ⟨w3.heap.size, 0, none⟩ = false := by rw [hwS]; simp [go_sem]
    have cB6 : wS.cell? ⟨w3.heap.size + 1, 0, none⟩ = some (.pointer (some ⟨w1.heap.size, 0, none⟩)) := by rw [hwS]; simp [go_sem]
    have c4 := (bS.cell (p := ⟨w.heap.size + 1, 0, none⟩) (show w.heap.size + 1 < w3.heap.size by omega)).trans c3
    have f4 := (bS.frozen (p := ⟨w.heap.size + 1, 0, none⟩) (show w.heap.size + 1 < w3.heap.size by omega)).trans f3
    have r6 := r5.ext bS
    clear r5
    have r5 := r4.ext bS
    have bwS : Below w.heap.size w wS := (bw.trans (hb3.mono (by omega))).trans (bS.mono (by omega))
    have RS := Lib.hid (hR.below bwS)
    have DS := Lib.hid (hD.ext bwS)
    have hdz := hD.deb.size
    rw [← hwS]
    simp only [s3] at cB5 fB5 cB6 ⊢
    have HCG := Lib.hid hcg
    clear hcg hwS hw3 hb3 st3 st4 sz3 c3 f3 r3 r4 bS
    refine rangeX2 (gf := 111) (lb := #[.pointer (some ⟨w1.heap.size + 1 + 1, 0, none⟩)]) rfl (enters_of Tryz.func111 (by kernel_rfl) rfl) (encs := fun r : R4 => #[.agg #[.int .i64 r.a, .int .i64 r.b, .int .i64 r.c, .int .i64 r.d]]) (L := canonL (covF P Q R S n)) (fun k => k = w.heap.size ∨ k = w.heap.size + 1 ∨ k = w1.heap.size + 1) (fun k hk => by omega) ?hseq (fun _ => rfl)
      (fun ps V => (∃ a' c', V.cell? ⟨w1.heap.size + 1, 0, none⟩ = some (.slice a' (n - ps.length) c') ∧ V.frozen? ⟨w1.heap.size + 1, 0, none⟩ = false ∧ ps.length ≤ n ∧ n - ps.length ≤ c' ∧ ps = (listR P Q R S n).take ps.length ∧ RectsIs w.heap.size V a' (n - ps.length) (shN ps.length P) (shN ps.length Q) (shN ps.length R) (shN ps.length S)) ∧
        V.cell? ⟨w.heap.size + 1, 0, none⟩ = some (.bool false) ∧ V.frozen? ⟨w.heap.size + 1, 0, none⟩ = false ∧ Below w.heap.size w V ∧ RowsAt V w.heap.size (fun _ => 0) ∧ RowsAt V w1.heap.size (cellsG P Q R S n))
      (fun c ps V => c = .ret ∧ canonL (covF P Q R S n) ≠ listR P Q R S n ∧ V.cell? ⟨w.heap.size + 1, 0, none⟩ = some (.bool false) ∧ Below w.heap.size w V ∧ RowsAt V w.heap.size (fun _ => 0))
      (fun s A B hs hb => by
        obtain ⟨⟨a', c', t1, t2, t3, t4, t5, t6⟩, t7, t8, t9, t10, t11⟩ := hs
        exact ⟨⟨a', c', (hb.cell (p := ⟨w1.heap.size + 1, 0, none⟩) (show w1.heap.size + 1 < wS.heap.size by omega)).trans t1, (hb.frozen (p := ⟨w1.heap.size + 1, 0, none⟩) (show w1.heap.size + 1 < wS.heap.size by omega)).trans t2, t3, t4, t5, t6.below (hb.mono (by omega))⟩, (hb.cell (p := ⟨w.heap.size + 1, 0, none⟩) (show w.heap.size + 1 < wS.heap.size by omega)).trans t7, (hb.frozen (p := ⟨w.heap.size + 1, 0, none⟩) (show w.heap.size + 1 < wS.heap.size by omega)).trans t8, t9.trans (hb.mono (by omega)), t10.below hb (by omega), t11.below hb (by omega)⟩)
      (fun c s A B hs hb => ⟨hs.1, hs.2.1, (hb.cell (p := ⟨w.heap.size + 1, 0, none⟩) (show w.heap.size + 1 < wS.heap.size by omega)).trans hs.2.2.1, hs.2.2.2.1.trans (hb.mono (by omega)), hs.2.2.2.2.below hb (by omega)⟩)
      ⟨⟨m, cap, cB5, fB5, Nat.zero_le _, hcap, rfl, by simp only [List.length_nil, shN_zero, Nat.sub_zero]; exact RS.out⟩, c4, f4, bwS, r6, r5⟩
      (fun T r Bx => (T.setIfInBounds 18 (.agg #[.int .i64 r.a, .int .i64 r.b, .int .i64 r.c, .int .i64 r.d])).setIfInBounds 7 (.pointer (some ⟨Bx, 0, none⟩))) (fun r => .cells #[.int .i64 r.a, .int .i64 r.b, .int .i64 r.c, .int .i64 r.d] 65) ?assign ?body ?done ?stop
    case hseq =>
      intro V hV hVs
      refine region_seq _ (w1.heap.size + 1 + 1) w1.heap.size (covF P Q R S n) (cellsG P Q R S n) V ((hV.cell (p := ⟨w1.heap.size + 1 + 1, 0, none⟩) (show w1.heap.size + 1 + 1 < wS.heap.size by omega)).trans cB6) (r5.ext hV) (by rw [HCG.out]; exact rows_of_list (Nat.le_refl _) hv) (DS.out.deb.ext hV) (by omega) (by omega) (by omega) (fun k hk => by omega)
    case assign =>
      intro l r V K hK
      gi_wp2
      exact hK
    case body =>
      rintro l ps r post Bx V hL hBx hVB ⟨⟨a', c', t1, t2, t3, t4, t5, t6⟩, t7, t8, t9, t10, t11⟩
      obtain ⟨k, hk⟩ : ∃ k, k = ps.length := ⟨_, rfl⟩
      obtain ⟨d, hd⟩ : ∃ d, d = n - ps.length := ⟨_, rfl⟩
      rw [← hd] at t1 t4 t6
      rw [← hk] at t3 t5 t6 hd
      have HL := Lib.hid hL
      have hlk : (canonL (covF P Q R S n))[k]? = some r := by rw [hL, hk]; simp
      have hVs : Bx < V.heap.size := (Array.getElem?_eq_some_iff.1 hVB).1
      have p0 : V.cell? ⟨Bx, 0, none⟩ = some (.int .i64 r.a) := by rw [cell_of_row _ _ 0 _ _ _ hVB]; rfl
      have p1 : V.cell? ⟨Bx, 1, none⟩ = some (.int .i64 r.b) := by rw [cell_of_row _ _ 1 _ _ _ hVB]; rfl
      have p2 : V.cell? ⟨Bx, 2, none⟩ = some (.int .i64 r.c) := by rw [cell_of_row _ _ 2 _ _ _ hVB]; rfl
      have p3 : V.cell? ⟨Bx, 3, none⟩ = some (.int .i64 r.d) := by rw [cell_of_row _ _ 3 _ _ _ hVB]; rfl
      have hmix : Tryz.prog.follows .mixedOrders = true := by kernel_rfl
      have kc : ∀ w', Kept (fun _ => False) V w' → ∀ g o v, V.cell? ⟨g, o, none⟩ = some v → w'.cell? ⟨g, o, none⟩ = some v := fun w' h9 g o v hv9 => (h9.cell (p := ⟨g, o, none⟩) (World.block_lt_of_cell? V ⟨g, o, none⟩ hv9) (fun h => h)).trans hv9
      have hS : Kept (fun _ => False) V V.drew := (Kept.refl _ V).drew
      have HVB := Lib.hid hVB
      obtain ⟨n1, n2, n3, n4, n5⟩ := two_results (V := V.drew) (fun _ => 0) t10 t7 t8
      have T10 := Lib.hid t10
      have T11 := Lib.hid t11
      have N5 := Lib.hid (n5 false)
      clear t10 t11 n5
      have HT5 := Lib.hid t5
      have HDK := Lib.hid (And.intro hd hk)
      clear hL hVB t5 hd hk
      dsimp only
      gi_wp2
      by_cases hd0 : d = 0
      · have hne : canonL (covF P Q R S n) ≠ listR P Q R S n := fun e => by
          have h1 := (List.getElem?_eq_some_iff.1 hlk).1
          rw [e, listR_len] at h1
          have := HDK.out.1
          omega
        subst hd0
        have HNE := Lib.hid hne
        have HLK := Lib.hid hlk
        clear hne hlk
        refine regionR (S := fun w' => Kept (fun _ => False) V w') hmix ?_
        refine takeR (i := 0) (.slice a' 0 c') rfl (by kernel_rfl) (by kernel_rfl) (by kernel_rfl) (by kernel_rfl) (fun _ _ _ h => h) (by rfl) ?_ (fun _ => rfl) hS ?_
        · intro w' h9
          simp [go_sem, Act.put, kc w' h9 _ _ _ t1]
        simp only [go_sem, Act.put, List.getElem_toArray, List.getElem_cons_succ, List.getElem_cons_zero, List.setIfInBounds_toArray, List.set_cons_succ, List.set_cons_zero]
        refine takeR (i := 1) (.int .i64 0) rfl (by kernel_rfl) (by kernel_rfl) (by kernel_rfl) (by kernel_rfl) (fun _ _ _ h => h) (by rfl) ?_ (fun _ => rfl) hS ?_
        · intro w' h9
          simp [go_sem, Act.put]
        simp only [go_sem, Act.put, List.getElem_toArray, List.getElem_cons_succ, List.getElem_cons_zero, List.setIfInBounds_toArray, List.set_cons_succ, List.set_cons_zero]
        refine takeR (i := 2) (.bool true) rfl (by kernel_rfl) (by kernel_rfl) (by kernel_rfl) (by kernel_rfl) (fun _ _ _ h => h) (by rfl) ?_ (fun _ => rfl) hS ?_
        · intro w' h9
          simp [go_sem, Act.put]
        simp only [go_sem, Act.put, List.getElem_toArray, List.getElem_cons_succ, List.getElem_cons_zero, List.setIfInBounds_toArray, List.set_cons_succ, List.set_cons_zero]
        refine takeR (i := 3) (.bool true) rfl (by kernel_rfl) (by kernel_rfl) (by kernel_rfl) (by kernel_rfl) (fun _ _ _ h => h) (by rfl) ?_ (fun _ => rfl) hS ?_
        · intro w' h9
          simp [go_sem, Act.put]
        simp only [go_sem, Act.put, List.getElem_toArray, List.getElem_cons_succ, List.getElem_cons_zero, List.setIfInBounds_toArray, List.set_cons_succ, List.set_cons_zero]
        refine passR (i := 4) rfl (by kernel_rfl) (by kernel_rfl) (by kernel_rfl) (by kernel_rfl) (fun _ _ _ h => h) (by simp [go_sem, Region.wanted, yielded]) (fun _ => rfl) hS ?_
        simp only [go_sem, Act.put, List.getElem_toArray, List.getElem_cons_succ, List.getElem_cons_zero, List.setIfInBounds_toArray, List.set_cons_succ, List.set_cons_zero]
        refine passR (i := 5) rfl (by kernel_rfl) (by kernel_rfl) (by kernel_rfl) (by kernel_rfl) (fun _ _ _ h => h) (by simp [go_sem, Region.wanted, yielded]) (fun _ => rfl) hS ?_
        simp only [go_sem, Act.put, List.getElem_toArray, List.getElem_cons_succ, List.getElem_cons_zero, List.setIfInBounds_toArray, List.set_cons_succ, List.set_cons_zero]
        refine passR (i := 6) rfl (by kernel_rfl) (by kernel_rfl) (by kernel_rfl) (by kernel_rfl) (fun _ _ _ h => h) (by simp [go_sem, Region.wanted, yielded]) (fun _ => rfl) hS ?_
        simp only [go_sem, Act.put, List.getElem_toArray, List.getElem_cons_succ, List.getElem_cons_zero, List.setIfInBounds_toArray, List.set_cons_succ, List.set_cons_zero]
        refine passR (i := 7) rfl (by kernel_rfl) (by kernel_rfl) (by kernel_rfl) (by kernel_rfl) (fun _ _ _ h => h) (by simp [go_sem, Region.wanted, yielded]) (fun _ => rfl) hS ?_
        simp only [go_sem, Act.put, List.getElem_toArray, List.getElem_cons_succ, List.getElem_cons_zero, List.setIfInBounds_toArray, List.set_cons_succ, List.set_cons_zero]
        refine passR (i := 8) rfl (by kernel_rfl) (by kernel_rfl) (by kernel_rfl) (by kernel_rfl) (fun _ _ _ h => h) (by simp [go_sem, Region.wanted, yielded]) (fun _ => rfl) hS ?_
        simp only [go_sem, Act.put, List.getElem_toArray, List.getElem_cons_succ, List.getElem_cons_zero, List.setIfInBounds_toArray, List.set_cons_succ, List.set_cons_zero]
        refine takeR (i := 9) (.bool true) rfl (by kernel_rfl) (by kernel_rfl) (by kernel_rfl) (by kernel_rfl) (fun _ _ _ h => h) (by rfl) ?_ (fun _ => rfl) hS ?_
        · intro w' h9
          simp [go_sem, Act.put]
        simp only [go_sem, Act.put, List.getElem_toArray, List.getElem_cons_succ, List.getElem_cons_zero, List.setIfInBounds_toArray, List.set_cons_succ, List.set_cons_zero]
        refine doneR (by kernel_rfl) ?_ _
        clear kc hS
        gi_wp2
        exact ⟨(((Kept.refl (fun k => k = w.heap.size ∨ k = w.heap.size + 1 ∨ k = w1.heap.size + 1) V).drew).setRow (g := w.heap.size) (.inl rfl) _).setCell (p := ⟨w.heap.size + 1, 0, none⟩) (.inr (.inl rfl)) _, rfl, HNE.out, N5.out.2, (t9.drew.trans (below_setRow _ _ (Nat.le_refl _))).setCell (p := ⟨w.heap.size + 1, 0, none⟩) (by simp) _, N5.out.1⟩
      · obtain ⟨b1, o1, rfl, hb1, d0, d1, d2, d3⟩ := t6 0 (by omega)
        have e0 : ∀ f : Nat → Int, shN k f 0 = f k := fun f => by unfold shN; rw [Nat.add_zero]
        simp only [e0, Nat.zero_mul, Nat.add_zero] at d0 d1 d2 d3
        have hkn : k < n := by have := HDK.out.1; omega
        have HLK := Lib.hid hlk
        clear hlk
        have hz0 : (((d : Nat) : Int) == 0) = false := by simp; omega
        have hz1 : ¬ ((d : Nat) : Int) = 0 := by omega
        have hz2 : (0 : Int) < ((d : Nat) : Int) := by omega
        have heq := eqRc (P k) (Q k) (R k) (S k) r.a r.b r.c r.d
        have T6 := Lib.hid t6
        clear t6
        cases hE : eqRB (P k) (Q k) (R k) (S k) r.a r.b r.c r.d with
        | false =>
          have hne : canonL (covF P Q R S n) ≠ listR P Q R S n := fun e => by
            have h9 := HLK.out
            rw [e, listR_get P Q R S n k hkn] at h9
            exact eqR_f hE (Option.some.inj h9)
          rw [hE] at heq
          have HNE := Lib.hid hne
          clear hE hne
          refine regionR (S := fun w' => Kept (fun _ => False) V w') hmix ?_
          refine takeR (i := 0) (.slice (some ⟨b1, o1, none⟩) d c') rfl (by kernel_rfl) (by kernel_rfl) (by kernel_rfl) (by kernel_rfl) (fun _ _ _ h => h) (by rfl) ?_ (fun _ => rfl) hS ?_
          · intro w' h9
            simp [go_sem, Act.put, kc w' h9 _ _ _ t1]
          simp only [go_sem, Act.put, List.getElem_toArray, List.getElem_cons_succ, List.getElem_cons_zero, List.setIfInBounds_toArray, List.set_cons_succ, List.set_cons_zero]
          refine takeR (i := 1) (.int .i64 (d : Int)) rfl (by kernel_rfl) (by kernel_rfl) (by kernel_rfl) (by kernel_rfl) (fun _ _ _ h => h) (by rfl) ?_ (fun _ => rfl) hS ?_
          · intro w' h9
            simp [go_sem, Act.put]
          simp only [go_sem, Act.put, List.getElem_toArray, List.getElem_cons_succ, List.getElem_cons_zero, List.setIfInBounds_toArray, List.set_cons_succ, List.set_cons_zero]
          refine takeR (i := 2) (.bool false) rfl (by kernel_rfl) (by kernel_rfl) (by kernel_rfl) (by kernel_rfl) (fun _ _ _ h => h) (by rfl) ?_ (fun _ => rfl) hS ?_
          · intro w' h9
            simp [go_sem, Act.put, hz0, hz1, hd0]
          simp only [go_sem, Act.put, List.getElem_toArray, List.getElem_cons_succ, List.getElem_cons_zero, List.setIfInBounds_toArray, List.set_cons_succ, List.set_cons_zero]
          refine takeR (i := 3) (.bool false) rfl (by kernel_rfl) (by kernel_rfl) (by kernel_rfl) (by kernel_rfl) (fun _ _ _ h => h) (by rfl) ?_ (fun _ => rfl) hS ?_
          · intro w' h9
            simp [go_sem, Act.put]
          simp only [go_sem, Act.put, List.getElem_toArray, List.getElem_cons_succ, List.getElem_cons_zero, List.setIfInBounds_toArray, List.set_cons_succ, List.set_cons_zero]
          refine takeR (i := 4) (.slice (some ⟨b1, o1, none⟩) d c') rfl (by kernel_rfl) (by kernel_rfl) (by kernel_rfl) (by kernel_rfl) (fun _ _ _ h => h) (by simp [go_sem, Region.wanted, yielded]) ?_ (fun _ => rfl) hS ?_
          · intro w' h9
            simp [go_sem, Act.put, kc w' h9 _ _ _ t1]
          simp only [go_sem, Act.put, List.getElem_toArray, List.getElem_cons_succ, List.getElem_cons_zero, List.setIfInBounds_toArray, List.set_cons_succ, List.set_cons_zero]
          refine takeR (i := 5) (.pointer (some ⟨b1, o1, none⟩)) rfl (by kernel_rfl) (by kernel_rfl) (by kernel_rfl) (by kernel_rfl) (fun _ _ _ h => h) (by simp [go_sem, Region.wanted, yielded]) ?_ (fun _ => rfl) hS ?_
          · intro w' h9
            simp [go_sem, Act.put, hz2, hz1, hd0]
          simp only [go_sem, Act.put, List.getElem_toArray, List.getElem_cons_succ, List.getElem_cons_zero, List.setIfInBounds_toArray, List.set_cons_succ, List.set_cons_zero]
          refine takeR (i := 6) (.agg #[.int .i64 (P k), .int .i64 (Q k), .int .i64 (R k), .int .i64 (S k)]) rfl (by kernel_rfl) (by kernel_rfl) (by kernel_rfl) (by kernel_rfl) (fun _ _ _ h => h) (by simp [go_sem, Region.wanted, yielded]) ?_ (fun _ => rfl) hS ?_
          · intro w' h9
            simp [go_sem, Act.put, kc w' h9 _ _ _ d0, kc w' h9 _ _ _ d1, kc w' h9 _ _ _ d2, kc w' h9 _ _ _ d3]
          simp only [go_sem, Act.put, List.getElem_toArray, List.getElem_cons_succ, List.getElem_cons_zero, List.setIfInBounds_toArray, List.set_cons_succ, List.set_cons_zero]
          refine takeR (i := 7) (.agg #[.int .i64 r.a, .int .i64 r.b, .int .i64 r.c, .int .i64 r.d]) rfl (by kernel_rfl) (by kernel_rfl) (by kernel_rfl) (by kernel_rfl) (fun _ _ _ h => h) (by simp [go_sem, Region.wanted, yielded]) ?_ (fun _ => rfl) hS ?_
          · intro w' h9
            simp [go_sem, Act.put, kc w' h9 _ _ _ p0, kc w' h9 _ _ _ p1, kc w' h9 _ _ _ p2, kc w' h9 _ _ _ p3]
          simp only [go_sem, Act.put, List.getElem_toArray, List.getElem_cons_succ, List.getElem_cons_zero, List.setIfInBounds_toArray, List.set_cons_succ, List.set_cons_zero]
          refine takeR (i := 8) (.bool true) rfl (by kernel_rfl) (by kernel_rfl) (by kernel_rfl) (by kernel_rfl) (fun _ _ _ h => h) (by simp [go_sem, Region.wanted, yielded]) ?_ (fun _ => rfl) hS ?_
          · intro w' h9
            simp [go_sem, Act.put, heq]
          simp only [go_sem, Act.put, List.getElem_toArray, List.getElem_cons_succ, List.getElem_cons_zero, List.setIfInBounds_toArray, List.set_cons_succ, List.set_cons_zero]
          refine takeR (i := 9) (.bool true) rfl (by kernel_rfl) (by kernel_rfl) (by kernel_rfl) (by kernel_rfl) (fun _ _ _ h => h) (by rfl) ?_ (fun _ => rfl) hS ?_
          · intro w' h9
            simp [go_sem, Act.put]
          simp only [go_sem, Act.put, List.getElem_toArray, List.getElem_cons_succ, List.getElem_cons_zero, List.setIfInBounds_toArray, List.set_cons_succ, List.set_cons_zero]
          refine doneR (by kernel_rfl) ?_ _
          clear kc hS heq
          gi_wp2
          exact ⟨(((Kept.refl (fun k => k = w.heap.size ∨ k = w.heap.size + 1 ∨ k = w1.heap.size + 1) V).drew).setRow (g := w.heap.size) (.inl rfl) _).setCell (p := ⟨w.heap.size + 1, 0, none⟩) (.inr (.inl rfl)) _, rfl, HNE.out, N5.out.2, (t9.drew.trans (below_setRow _ _ (Nat.le_refl _))).setCell (p := ⟨w.heap.size + 1, 0, none⟩) (by simp) _, N5.out.1⟩
        | true =>
          have hrk : (R4.mk (P k) (Q k) (R k) (S k)) = r := eqR_t hE
          have HRK := Lib.hid hrk
          clear hrk
          rw [hE] at heq
          clear hE
          refine regionR (S := fun w' => Kept (fun _ => False) V w') hmix ?_
          refine takeR (i := 0) (.slice (some ⟨b1, o1, none⟩) d c') rfl (by kernel_rfl) (by kernel_rfl) (by kernel_rfl) (by kernel_rfl) (fun _ _ _ h => h) (by rfl) ?_ (fun _ => rfl) hS ?_
          · intro w' h9
            simp [go_sem, Act.put, kc w' h9 _ _ _ t1]
          simp only [go_sem, Act.put, List.getElem_toArray, List.getElem_cons_succ, List.getElem_cons_zero, List.setIfInBounds_toArray, List.set_cons_succ, List.set_cons_zero]
          refine takeR (i := 1) (.int .i64 (d : Int)) rfl (by kernel_rfl) (by kernel_rfl) (by kernel_rfl) (by kernel_rfl) (fun _ _ _ h => h) (by rfl) ?_ (fun _ => rfl) hS ?_
          · intro w' h9
            simp [go_sem, Act.put]
          simp only [go_sem, Act.put, List.getElem_toArray, List.getElem_cons_succ, List.getElem_cons_zero, List.setIfInBounds_toArray, List.set_cons_succ, List.set_cons_zero]
          refine takeR (i := 2) (.bool false) rfl (by kernel_rfl) (by kernel_rfl) (by kernel_rfl) (by kernel_rfl) (fun _ _ _ h => h) (by rfl) ?_ (fun _ => rfl) hS ?_
          · intro w' h9
            simp [go_sem, Act.put, hz0, hz1, hd0]
          simp only [go_sem, Act.put, List.getElem_toArray, List.getElem_cons_succ, List.getElem_cons_zero, List.setIfInBounds_toArray, List.set_cons_succ, List.set_cons_zero]
          refine takeR (i := 3) (.bool false) rfl (by kernel_rfl) (by kernel_rfl) (by kernel_rfl) (by kernel_rfl) (fun _ _ _ h => h) (by rfl) ?_ (fun _ => rfl) hS ?_
          · intro w' h9
            simp [go_sem, Act.put]
          simp only [go_sem, Act.put, List.getElem_toArray, List.getElem_cons_succ, List.getElem_cons_zero, List.setIfInBounds_toArray, List.set_cons_succ, List.set_cons_zero]
          refine takeR (i := 4) (.slice (some ⟨b1, o1, none⟩) d c') rfl (by kernel_rfl) (by kernel_rfl) (by kernel_rfl) (by kernel_rfl) (fun _ _ _ h => h) (by simp [go_sem, Region.wanted, yielded]) ?_ (fun _ => rfl) hS ?_
          · intro w' h9
            simp [go_sem, Act.put, kc w' h9 _ _ _ t1]
          simp only [go_sem, Act.put, List.getElem_toArray, List.getElem_cons_succ, List.getElem_cons_zero, List.setIfInBounds_toArray, List.set_cons_succ, List.set_cons_zero]
          refine takeR (i := 5) (.pointer (some ⟨b1, o1, none⟩)) rfl (by kernel_rfl) (by kernel_rfl) (by kernel_rfl) (by kernel_rfl) (fun _ _ _ h => h) (by simp [go_sem, Region.wanted, yielded]) ?_ (fun _ => rfl) hS ?_
          · intro w' h9
            simp [go_sem, Act.put, hz2, hz1, hd0]
          simp only [go_sem, Act.put, List.getElem_toArray, List.getElem_cons_succ, List.getElem_cons_zero, List.setIfInBounds_toArray, List.set_cons_succ, List.set_cons_zero]
          refine takeR (i := 6) (.agg #[.int .i64 (P k), .int .i64 (Q k), .int .i64 (R k), .int .i64 (S k)]) rfl (by kernel_rfl) (by kernel_rfl) (by kernel_rfl) (by kernel_rfl) (fun _ _ _ h => h) (by simp [go_sem, Region.wanted, yielded]) ?_ (fun _ => rfl) hS ?_
          · intro w' h9
            simp [go_sem, Act.put, kc w' h9 _ _ _ d0, kc w' h9 _ _ _ d1, kc w' h9 _ _ _ d2, kc w' h9 _ _ _ d3]
          simp only [go_sem, Act.put, List.getElem_toArray, List.getElem_cons_succ, List.getElem_cons_zero, List.setIfInBounds_toArray, List.set_cons_succ, List.set_cons_zero]
          refine takeR (i := 7) (.agg #[.int .i64 r.a, .int .i64 r.b, .int .i64 r.c, .int .i64 r.d]) rfl (by kernel_rfl) (by kernel_rfl) (by kernel_rfl) (by kernel_rfl) (fun _ _ _ h => h) (by simp [go_sem, Region.wanted, yielded]) ?_ (fun _ => rfl) hS ?_
          · intro w' h9
            simp [go_sem, Act.put, kc w' h9 _ _ _ p0, kc w' h9 _ _ _ p1, kc w' h9 _ _ _ p2, kc w' h9 _ _ _ p3]
          simp only [go_sem, Act.put, List.getElem_toArray, List.getElem_cons_succ, List.getElem_cons_zero, List.setIfInBounds_toArray, List.set_cons_succ, List.set_cons_zero]
          refine takeR (i := 8) (.bool false) rfl (by kernel_rfl) (by kernel_rfl) (by kernel_rfl) (by kernel_rfl) (fun _ _ _ h => h) (by simp [go_sem, Region.wanted, yielded]) ?_ (fun _ => rfl) hS ?_
          · intro w' h9
            simp [go_sem, Act.put, heq]
          simp only [go_sem, Act.put, List.getElem_toArray, List.getElem_cons_succ, List.getElem_cons_zero, List.setIfInBounds_toArray, List.set_cons_succ, List.set_cons_zero]
          refine takeR (i := 9) (.bool false) rfl (by kernel_rfl) (by kernel_rfl) (by kernel_rfl) (by kernel_rfl) (fun _ _ _ h => h) (by rfl) ?_ (fun _ => rfl) hS ?_
          · intro w' h9
            simp [go_sem, Act.put]
          simp only [go_sem, Act.put, List.getElem_toArray, List.getElem_cons_succ, List.getElem_cons_zero, List.setIfInBounds_toArray, List.set_cons_succ, List.set_cons_zero]
          refine doneR (by kernel_rfl) ?_ _
          clear kc hS heq
          have q1 : (1 : Int) ≤ ((d : Nat) : Int) := by omega
          have q2 : ((d : Nat) : Int) ≤ (c' : Int) := by omega
          have hk1 : (ps ++ [r]).length = k + 1 := by rw [HDK.out.2]; simp
          have hps1 : ps ++ [r] = (listR P Q R S n).take (k + 1) := by
            rw [List.take_add_one, listR_get P Q R S n k hkn, HRK.out, ← HT5.out]; rfl
          have hkp : ∀ v, Kept (fun k => k = w.heap.size ∨ k = w.heap.size + 1 ∨ k = w1.heap.size + 1) V (V.drew.setCell ⟨w1.heap.size + 1, 0, none⟩ v) := fun v => ((Kept.refl _ V).drew).setCell (X := fun k => k = w.heap.size ∨ k = w.heap.size + 1 ∨ k = w1.heap.size + 1) (p := ⟨w1.heap.size + 1, 0, none⟩) (.inr (.inr rfl)) v
          have hbp : ∀ v, Below w.heap.size w (V.drew.setCell ⟨w1.heap.size + 1, 0, none⟩ v) := fun v => t9.drew.setCell (p := ⟨w1.heap.size + 1, 0, none⟩) (show w.heap.size ≤ w1.heap.size + 1 by omega) v
          have hdd : n - (k + 1) = d - 1 := by have := HDK.out.1; omega
          have T7 := T6.out.shift 1
          simp only [shN_shN] at T7
          have HT7 := Lib.hid (show RectsIs w.heap.size V (some ⟨b1, o1 + 4, none⟩) (d - 1) (shN (k + 1) P) (shN (k + 1) Q) (shN (k + 1) R) (shN (k + 1) S) from T7)
          have HK1 := Lib.hid hk1
          have HPS := Lib.hid hps1
          have HDD := Lib.hid hdd
          clear T7 hk1 hps1 hdd
          by_cases hc1 : 1 = c'
          · subst hc1
            have hd1 : d = 1 := by omega
            subst hd1
            gi_wp2
            refine ⟨hkp _, ⟨some ⟨b1, o1, none⟩, 0, ?_, by simp [go_sem, t2], by rw [HK1.out]; omega, by rw [HK1.out, HDD.out]; omega, by rw [HK1.out]; exact HPS.out, by rw [HK1.out, HDD.out]; exact RectsIs.zero⟩, by simp [go_sem, t7], by simp [go_sem, t8], hbp _, T10.out.other (by simp; omega) _, T11.out.other (by simp) _⟩
            rw [HK1.out, HDD.out]
            simp [go_sem, t1]
          · gi_wp2
            refine ⟨hkp _, ⟨some ⟨b1, o1 + 4, none⟩, c' - 1, ?_, by simp [go_sem, t2], by rw [HK1.out]; omega, by rw [HK1.out, HDD.out]; omega, by rw [HK1.out]; exact HPS.out, ?_⟩, by simp [go_sem, t7], by simp [go_sem, t8], hbp _, T10.out.other (by simp; omega) _, T11.out.other (by simp) _⟩
            · rw [HK1.out, HDD.out]
              simp [go_sem, t1]
            · rw [HK1.out, HDD.out]
              exact HT7.out.below ((Below.refl w.heap.size V).drew.setCell (p := ⟨w1.heap.size + 1, 0, none⟩) (show w.heap.size ≤ w1.heap.size + 1 by omega) _)
    case done =>
      rintro D V hDq ⟨⟨a', c', t1, t2, t3, t4, t5, t6⟩, t7, t8, t9, t10, t11⟩ hDV
      have hcl : decide (canonL (covF P Q R S n) = listR P Q R S n) = decide (n - (canonL (covF P Q R S n)).length = 0) := by
        rw [Bool.eq_iff_iff, decide_eq_true_eq, decide_eq_true_eq]
        constructor
        · intro e
          rw [e, listR_len]
          omega
        · intro e
          have h9 := t5
          rw [List.take_of_length_le (by rw [listR_len]; omega)] at h9
          exact h9
      obtain ⟨d, hd⟩ : ∃ d, d = n - (canonL (covF P Q R S n)).length := ⟨_, rfl⟩
      rw [← hd] at t1 hcl
      have HCL := Lib.hid hcl
      have hD0 : D ≠ w.heap.size := by omega
      have hD1 : D ≠ w.heap.size + 1 := by omega
      have hRG : Hid (regG P Q R S n = if decide (d = 0) = true then cellsG P Q R S n else fun _ => 0) := by
        unfold Hid regG
        rw [okR_t HOK.out, hcl, HCG.out]
      clear t5 t6 t4 hcl hd
      dsimp only
      by_cases hd0 : d = 0
      · subst hd0
        have HG := Lib.hid (show regG P Q R S n = cellsG P Q R S n by rw [hRG.out]; rfl)
        clear hRG
        obtain ⟨n1, n2, n3, n4, n5⟩ := two_results (cellsG P Q R S n) t10 t7 t8
        have T10 := Lib.hid t10
        have T11 := Lib.hid t11
        have N5 := Lib.hid (n5 true)
        clear t10 t11 n5
        go_upto_region 12 with fail
        refine wp_region_lit ?_
        unfold wpList
        rw [if_pos (by rfl)]
        refine .inl (op_load59 rfl rfl T11.out ?_)
        unfold wpList
        rw [if_pos (by rfl)]
        refine .inl (op_store59 (d := 2) (s := 36) (G := cellsG P Q R S n) ?_ ?_ ?_ T10.out ?_)
        · rfl
        · rfl
        · rfl
        simp only [go_sem, Act.put]
        go_wp2_with fail
        refine leaves_one (D := D) (v := .tuple #[.agg (wArr (cellsG P Q R S n)), .bool true]) ((Below.heap_setCell _ _ _ _ (by simp; omega)).trans ((setRow_other _ _ _ (by omega)).trans hDV)) (fun w' hw' => ?_)
        have r9 : RowsAt w' w.heap.size (cellsG P Q R S n) := by rw [hw']; exact N5.out.1.putObj _ (by omega)
        have c9 : w'.cell? ⟨w.heap.size + 1, 0, none⟩ = some (.bool true) := by
          rw [hw', World.cell?_of_block (w := (V.setRow w.heap.size (wArr (cellsG P Q R S n))).setCell ⟨w.heap.size + 1, 0, none⟩ (.bool true)) (World.putObj_heap_other (show w.heap.size + 1 ≠ D by omega))]
          exact N5.out.2
        refine ⟨by rw [results_two rfl]; simp [asAddr, Result.andThen, loadVar59 r9]; simp [go_sem, c9], by rw [HCL.out, HG.out]; rfl, ?_⟩
        rw [hw']
        exact ((t9.trans (below_setRow _ _ (Nat.le_refl _))).setCell (p := ⟨w.heap.size + 1, 0, none⟩) (by simp) _).trans (below_putObj _ _ (by omega))
      · have HG := Lib.hid (show regG P Q R S n = fun _ => 0 by rw [hRG.out, if_neg (by simpa using hd0)])
        have HD0 := Lib.hid (decide_eq_false hd0)
        clear hRG
        obtain ⟨n1, n2, n3, n4, n5⟩ := two_results (fun _ => 0) t10 t7 t8
        have T10 := Lib.hid t10
        have N5 := Lib.hid (n5 false)
        have q1 : (0 : Int) < (d : Int) := by omega
        clear t10 t11 n5
        go_wp2_with fail
        refine leaves_one (D := D) (v := .tuple #[.agg (wArr fun _ => 0), .bool false]) ((Below.heap_setCell _ _ _ _ (by simp; omega)).trans ((setRow_other _ _ _ (by omega)).trans hDV)) (fun w' hw' => ?_)
        have r9 : RowsAt w' w.heap.size (fun _ => 0) := by rw [hw']; exact N5.out.1.putObj _ (by omega)
        have c9 : w'.cell? ⟨w.heap.size + 1, 0, none⟩ = some (.bool false) := by
          rw [hw', World.cell?_of_block (w := (V.setRow w.heap.size (wArr fun _ => 0)).setCell ⟨w.heap.size + 1, 0, none⟩ (.bool false)) (World.putObj_heap_other (show w.heap.size + 1 ≠ D by omega))]
          exact N5.out.2
        refine ⟨by rw [results_two rfl]; simp [asAddr, Result.andThen, loadVar59 r9]; simp [go_sem, c9], by rw [HCL.out, HD0.out, HG.out], ?_⟩
        rw [hw']
        exact ((t9.trans (below_setRow _ _ (Nat.le_refl _))).setCell (p := ⟨w.heap.size + 1, 0, none⟩) (by simp) _).trans (below_putObj _ _ (by omega))
    case stop =>
      rintro D c ps V hDq hps ⟨rfl, hne, t7, t9, t10⟩ hDV
      have hD0 : D ≠ w.heap.size := by omega
      have HNE := Lib.hid (decide_eq_false hne)
      have HG : Hid (regG P Q R S n = fun _ => 0) := by
        unfold Hid regG
        rw [okR_t HOK.out, HNE.out]
        rfl
      clear hne
      dsimp only
      go_wp2_with fail
      refine leaves_one (D := D) (v := .tuple #[.agg (wArr fun _ => 0), .bool false]) hDV (fun w' hw' => ?_)
      have r9 : RowsAt w' w.heap.size (fun _ => 0) := by rw [hw']; exact t10.putObj _ (by omega)
      have c9 : w'.cell? ⟨w.heap.size + 1, 0, none⟩ = some (.bool false) := by
        rw [hw', World.cell?_of_block (w := V) (World.putObj_heap_other (show w.heap.size + 1 ≠ D by omega))]
        exact t7
      refine ⟨by rw [results_two rfl]; simp [asAddr, Result.andThen, loadVar59 r9]; simp [go_sem, c9], by rw [HNE.out, HG.out], ?_⟩
      rw [hw']
      exact t9.trans (below_putObj _ _ (by omega))

set_option maxHeartbeats 4000000 in
theorem isRegion_any (m : Option Addr) (n cap : Nat) (P Q R S : Nat → Int) (w : World) (hn : n ≤ 1048576) (hcap : n ≤ cap) (hD : EnvW w) (hR : RectsIs w.heap.size w m n P Q R S) :
    Calls Tryz.prog 73 #[.slice m n cap] w fun e w' => e = .returned (.bool (okR P Q R S n)) ∧ Below w.heap.size w w' := by
  have hz := zero59
  go_enter Tryz.func73, Tryz.ntmps73
  go_wp2_with (first | (go_at_call 120; refine (cellsOf_any m n cap P Q R S w hn hcap hD hR).mono ?_; rintro e w1 ⟨rfl, bw1⟩; have r3 := RowsAt.new w1 (fun _ => 0); have st3 := store59 (regG P Q R S n) r3; have st4 := storeAt59 (regG P Q R S n) r3; have sz3 := wArr_size (regG P Q R S n); have hb3 : Below w1.heap.size w1 ((w1.alloc (.cells (wArr fun _ => 0) 86)).setRow w1.heap.size (wArr (regG P Q R S n))) := ((Below.refl _ _).alloc (Nat.le_refl _) _).trans (below_setRow _ _ (Nat.le_refl _))))
  exact bodyPost_ret (v := .bool (okR P Q R S n)) (by simp [results, Tryz.results73, go_sem]) rfl ⟨rfl, Ext.trans bw1 hb3⟩
end Go.Proofs.YtfbalpkjcfdakaaGreatDoor

namespace Go.Proofs.YtfbalpkjcfdakaaGreatDoor
open Go.RowKit Go.Shelf
set_option linter.unusedVariables false
set_option linter.unusedSimpArgs false
attribute [local go_sem] Oper.semAt_some

theorem ownsL_own {w : World} {B : Nat} {v : Value} {l : List R4} (h : w.ownsRow B 65 4 v l.length (recCells l)) : ∃ a c, v = .slice a l.length c ∧ OwnsL B w a l := by
  have hh := h
  rcases h.2 with ⟨rfl, h0⟩ | ⟨g, cap, cur, rfl, h1, h2, h3⟩
  · have hl : l = [] := List.eq_nil_of_length_eq_zero h0
    subst hl
    exact ⟨none, 0, rfl, .inl rfl⟩
  · have hr := rec_own hh
    refine ⟨_, cap, rfl, .inr ⟨g, rfl, h1, hr.2.1, fun k hk => ?_⟩⟩
    obtain ⟨c0, c1, c2, c3⟩ := hr.2.2 k _ (getD_get hk)
    exact ⟨⟨c0, c1, c2, c3⟩, frozen_of_row _ _ _ _ _ h2, frozen_of_row _ _ _ _ _ h2, frozen_of_row _ _ _ _ _ h2, frozen_of_row _ _ _ _ _ h2⟩
theorem okV_N (P Q R S : Nat → Int) (n : Nat) : okV P Q R S n = okN P Q R S n := rfl

set_option maxRecDepth 100000 in
set_option maxHeartbeats 4000000 in
theorem regionOf_any (m : Option Addr) (n cap : Nat) (P Q R S : Nat → Int) (w : World) (hn : n ≤ 1048576) (hcap : n ≤ cap) (hD : EnvW w) (hR : RectsIs w.heap.size w m n P Q R S) :
    Calls Tryz.prog 150 #[.slice m n cap] w fun e w' => LOwn2 w.heap.size (roL P Q R S n) (okV P Q R S n) e w' ∧ Below w.heap.size w w' := by
  have hz := zero59
  unfold roL
  rw [okV_N]
  cases hok : okN P Q R S n with
  | false =>
    rw [if_neg (by simp)]
    go_enter Tryz.func150, Tryz.ntmps150
    go_wp2_with (first | (go_at_call 147; refine (cells_any m n cap P Q R S _ (hD.chip.ext (by (repeat (first | (with_reducible exact Below.refl _ _) | (with_reducible refine Ext.drewN ?_ _) | (with_reducible refine Below.drew ?_) | (with_reducible refine Ext.alloc ?_ _) | (with_reducible refine Ext.setCell ?_ (by simp; try omega) _) | (with_reducible refine Ext.trans ?_ (by assumption)) | (with_reducible assumption) | exact Below.refl _ _)))) hn hcap (hR.ext (by (repeat (first | (with_reducible exact Below.refl _ _) | (with_reducible refine Ext.drewN ?_ _) | (with_reducible refine Below.drew ?_) | (with_reducible refine Ext.alloc ?_ _) | (with_reducible refine Ext.setCell ?_ (by simp; try omega) _) | (with_reducible refine Ext.trans ?_ (by assumption)) | (with_reducible assumption) | exact Below.refl _ _))))).mono ?_; rintro e w1 ⟨rfl, bw1⟩; rw [hok]; have r3 := RowsAt.new w1 (fun _ => 0); have st3 := store59 (cellsG P Q R S n) r3; have st4 := storeAt59 (cellsG P Q R S n) r3; have sz3 := wArr_size (cellsG P Q R S n); have hb3 : Below w1.heap.size w1 ((w1.alloc (.cells (wArr fun _ => 0) 86)).setRow w1.heap.size (wArr (cellsG P Q R S n))) := ((Below.refl _ _).alloc (Nat.le_refl _) _).trans (below_setRow _ _ (Nat.le_refl _))))
    have bw : Below w.heap.size w w1 := by (repeat (first | (with_reducible exact Below.refl _ _) | (with_reducible refine Ext.drewN ?_ _) | (with_reducible refine Below.drew ?_) | (with_reducible refine Ext.alloc ?_ _) | (with_reducible refine Ext.setCell ?_ (by simp; try omega) _) | (with_reducible refine Ext.trans ?_ (by assumption)) | (with_reducible assumption) | exact Below.refl _ _))
    exact bodyPost_ret (v := .tuple #[.slice none 0 0, .bool false]) (by simp [results, Tryz.results150, go_sem]) rfl ⟨⟨none, 0, rfl, .inl rfl⟩, Ext.trans bw hb3⟩
  | true =>
    rw [if_pos rfl]
    have hcg : cellsG P Q R S n = rowsG (rowsQ n P Q R S n) := by unfold cellsG; rw [hok]; rfl
    have hv : ∀ i, i < n → rvB (P i) (Q i) (R i) (S i) = true := fun i hi => by
      unfold okN at hok
      simp only [Bool.and_eq_true] at hok
      exact allV_at hok.2 hi
    have HCG := Lib.hid hcg
    have HV := Lib.hid hv
    clear hcg hv
    go_enter Tryz.func150, Tryz.ntmps150
    go_wp2_with (first | (go_at_call 147; refine (cells_any m n cap P Q R S _ (hD.chip.ext (by (repeat (first | (with_reducible exact Below.refl _ _) | (with_reducible refine Ext.drewN ?_ _) | (with_reducible refine Below.drew ?_) | (with_reducible refine Ext.alloc ?_ _) | (with_reducible refine Ext.setCell ?_ (by simp; try omega) _) | (with_reducible refine Ext.trans ?_ (by assumption)) | (with_reducible assumption) | exact Below.refl _ _)))) hn hcap (hR.ext (by (repeat (first | (with_reducible exact Below.refl _ _) | (with_reducible refine Ext.drewN ?_ _) | (with_reducible refine Below.drew ?_) | (with_reducible refine Ext.alloc ?_ _) | (with_reducible refine Ext.setCell ?_ (by simp; try omega) _) | (with_reducible refine Ext.trans ?_ (by assumption)) | (with_reducible assumption) | exact Below.refl _ _))))).mono ?_; rintro e w1 ⟨rfl, bw1⟩; rw [hok]; have r3 := RowsAt.new w1 (fun _ => 0); have st3 := store59 (cellsG P Q R S n) r3; have st4 := storeAt59 (cellsG P Q R S n) r3; have sz3 := wArr_size (cellsG P Q R S n); have hb3 : Below w1.heap.size w1 ((w1.alloc (.cells (wArr fun _ => 0) 86)).setRow w1.heap.size (wArr (cellsG P Q R S n))) := ((Below.refl _ _).alloc (Nat.le_refl _) _).trans (below_setRow _ _ (Nat.le_refl _))) | (go_at_call 62; refine (region_any _ _).mono ?_; rintro e w4 ⟨rfl, hw4⟩; subst hw4))
    have bw : Below w.heap.size w w1 := by (repeat (first | (with_reducible exact Below.refl _ _) | (with_reducible refine Ext.drewN ?_ _) | (with_reducible refine Below.drew ?_) | (with_reducible refine Ext.alloc ?_ _) | (with_reducible refine Ext.setCell ?_ (by simp; try omega) _) | (with_reducible refine Ext.trans ?_ (by assumption)) | (with_reducible assumption) | exact Below.refl _ _))
    have r4 := r3.setRow (cellsG P Q R S n)
    obtain ⟨w3, hw3⟩ : ∃ w3, w3 = (w1.alloc (.cells (wArr fun _ => 0) 86)).setRow w1.heap.size (wArr (cellsG P Q R S n)) := ⟨_, rfl⟩
    rw [← hw3] at hb3 r4 ⊢
    have s3 : w3.heap.size = w1.heap.size + 1 := by rw [hw3, setRow_size]; simp
    have B3 := Ext.trans bw hb3
    obtain ⟨wS, hwS⟩ : ∃ wS, wS = w3.alloc (.cells #[.pointer (some ⟨w1.heap.size, 0, none⟩)] 143) := ⟨_, rfl⟩
    have bS : Below w3.heap.size w3 wS := by rw [hwS]; (repeat (first | (with_reducible exact Below.refl _ _) | (with_reducible refine Ext.drewN ?_ _) | (with_reducible refine Below.drew ?_) | (with_reducible refine Ext.alloc ?_ _) | (with_reducible refine Ext.setCell ?_ (by simp; try omega) _) | (with_reducible refine Ext.trans ?_ (by assumption)) | (with_reducible assumption) | exact Below.refl _ _))
    have cS : wS.cell? ⟨w3.heap.size, 0, none⟩ = some (.pointer (some ⟨w1.heap.size, 0, none⟩)) := by rw [hwS]; simp [go_sem]
    have BS := Ext.trans B3 bS
    rw [s3] at cS
    have r5 := r4.ext bS
    rw [← hwS]
    clear hwS hw3 st3 st4 sz3 r3 r4 bw1
    refine (collect_any (w1.heap.size + 1) w1.heap.size (covF P Q R S n) (cellsG P Q R S n) wS cS r5 (by rw [HCG.out]; exact rows_of_list (Nat.le_refl _) HV.out) (hD.deb.ext BS)).mono ?_
    rintro e w5 ⟨⟨v, rfl, hv⟩, bw5⟩
    obtain ⟨a, c, rfl, ho⟩ := ownsL_own hv
    have HO := Lib.hid ho
    clear ho hv
    go_wp2_with fail
    exact bodyPost_ret (v := .tuple #[.slice a (canonL (covF P Q R S n)).length c, .bool true]) (by simp [results, Tryz.results150, go_sem]) rfl ⟨⟨a, c, rfl, HO.out.mono BS.size⟩, Ext.trans BS bw5⟩
end Go.Proofs.YtfbalpkjcfdakaaGreatDoor

namespace Go.Proofs.YtfbalpkjcfdakaaGreatDoor
open Go.RowKit Go.Lib

def debL : List Int := deBruijn64tab.map fun (n : Nat) => (n : Int)
theorem debL_at : ∀ i, i < 64 → debL[i]? = some ((deBruijn64tab.getD i 0 : Nat) : Int) := by decide +kernel

theorem deb_of_laid {W : World} {laid : List (String × DataW Unit)} (h : laidMetH Tryz.prog laid W) (hp : (laid.all fun x => x.2.handleName?.isNone) = true)
    (hm : ("math/bits.deBruijn64tab", Rows.laid_math_bits_deBruijn64tab) ∈ laid) : DebW W := by
  rw [MakeChecks.laidMetH_plain _ _ _ hp] at h
  obtain ⟨g, t, cs, fuel, p, hg, hty, hvar, hd⟩ := laidMet.reads h hm
  obtain rfl := Option.some.inj ((show Tryz.prog.globalNamed "math/bits.deBruijn64tab" = some 1 by kernel_rfl).symm.trans hg)
  obtain rfl := Option.some.inj ((show (Tryz.prog.globals[1]?).map (·.type) = some 220 by kernel_rfl).symm.trans hty)
  have c1 : Tryz.prog.cellsOf 5 = 1 := by kernel_rfl
  have c64 : Tryz.prog.cellsOf 220 = 64 := by kernel_rfl
  rw [show (Rows.laid_math_bits_deBruijn64tab : DataW Unit) = tabData .u8 debL from rfl] at hd
  have hcs := cells_of_tab Tryz.underlying220 Tryz.underlying5 c1 c64 hd
  intro i hi
  rw [World.var?_cell hg hvar, ← Array.getElem?_toList, hcs]
  simp [debL_at i hi]
end Go.Proofs.YtfbalpkjcfdakaaGreatDoor

namespace Go.Proofs.YtfbalpkjcfdakaaGreatDoor
open Go.RowKit Go.Lib

theorem chip_of_laid {W : World} {laid : List (String × DataW Unit)} (h : laidMetH Tryz.prog laid W) (hp : (laid.all fun x => x.2.handleName?.isNone) = true)
    (hm : ("loop.example/g00890/impl.chip", Rows.laid_loop_example_g00890_impl_chip) ∈ laid) : ChipW W := by
  rw [MakeChecks.laidMetH_plain _ _ _ hp] at h
  obtain ⟨g, t, cs, fuel, p, hg, hty, hvar, hd⟩ := laidMet.reads h hm
  obtain rfl := Option.some.inj ((show Tryz.prog.globalNamed "loop.example/g00890/impl.chip" = some 2 by kernel_rfl).symm.trans hg)
  obtain rfl := Option.some.inj ((show (Tryz.prog.globals[2]?).map (·.type) = some 65 by kernel_rfl).symm.trans hty)
  have hu : Tryz.prog.underlying 65 = some (.struct (Tryz.prog.fieldsOf 65)) := by kernel_rfl
  have c1 : Tryz.prog.cellsOf 2 = 1 := by kernel_rfl
  have c4 : Tryz.prog.cellsOf 65 = (Tryz.prog.fieldsOf 65).size := by kernel_rfl
  have hf : (Tryz.prog.fieldsOf 65).toList.map (fun f => (f.type, f.offset)) = [(2, 0), (2, 1), (2, 2), (2, 3)] := by kernel_rfl
  have hff : ∀ (i : Nat) (f : Field), (Tryz.prog.fieldsOf 65)[i]? = some f → Tryz.prog.underlying f.type = some (.int .i64) ∧ f.offset = i ∧ Tryz.prog.cellsOf f.type = 1 := by
    intro i f hi
    have h1 : ((Tryz.prog.fieldsOf 65).toList.map (fun f => (f.type, f.offset)))[i]? = some (f.type, f.offset) := by
      rw [List.getElem?_map, Array.getElem?_toList, hi]
      rfl
    rw [hf] at h1
    have key : f.type = 2 ∧ f.offset = i := by
      rcases i with _ | _ | _ | _ | i
      all_goals simp at h1
      all_goals (obtain ⟨h1, h2⟩ := h1; exact ⟨h1.symm, by omega⟩)
    rw [key.1]
    exact ⟨Tryz.underlying2, key.2, c1⟩
  have hcs := ints_of_struct (k := .i64) (zs := [-40, -40, 40, 40]) hu hff c4 hd
  have hc : ∀ i : Nat, W.cell? ⟨2, i, none⟩ = ([-40, -40, 40, 40].map (Value.int .i64))[i]? := fun i => by
    rw [World.var?_cell hg hvar, ← Array.getElem?_toList, hcs]
  exact ⟨hc 0, hc 1, hc 2, hc 3⟩
end Go.Proofs.YtfbalpkjcfdakaaGreatDoor

namespace Go.Proofs.YtfbalpkjcfdakaaGreatDoor
open Go.RowKit

theorem implIsRegion : ImplIsRegion := fun m n cap P Q R S W hn hc hD hR => isRegion_any m n cap P Q R S W hn hc hD hR
end Go.Proofs.YtfbalpkjcfdakaaGreatDoor

namespace Go.Proofs.YtfbalpkjcfdakaaGreatDoor
open Go.RowKit Go.Shelf
set_option linter.unusedVariables false
set_option linter.unusedSimpArgs false

theorem own_cap {w : World} {B n c : Nat} {a : Option Addr} {xs : List Value} (h : w.ownsRow B 65 4 (.slice a n c) n xs) : n ≤ c := by
  rcases h.2 with ⟨e, h0⟩ | ⟨g, cap, cur, e, _, _, h3, _⟩
  · omega
  · cases e
    exact h3
/-- The parts of the first rectangles that lie in a box. -/
def ixL (P Q R S : Nat → Int) (a b c d : Int) : Nat → List R4
  | 0 => []
  | i + 1 => ixL P Q R S a b c d i ++ if ovB (P i) (Q i) (R i) (S i) a b c d = true then [R4.mk (hi2 (P i) a) (hi2 (Q i) b) (lo2 (R i) c) (lo2 (S i) d)] else []
theorem ixL_len (P Q R S : Nat → Int) (a b c d : Int) : ∀ i, (ixL P Q R S a b c d i).length ≤ i
  | 0 => Nat.le_refl _
  | i + 1 => by
    have h := ixL_len P Q R S a b c d i
    unfold ixL
    rw [List.length_append]
    split <;> simp <;> omega
theorem ixL_ok (P Q R S : Nat → Int) (a b c d : Int) : ∀ i r, r ∈ ixL P Q R S a b c d i → rvB r.a r.b r.c r.d = true
  | 0, r, h => by simp [ixL] at h
  | i + 1, r, h => by
    unfold ixL at h
    rw [List.mem_append] at h
    rcases h with h | h
    · exact ixL_ok P Q R S a b c d i r h
    · split at h
      · rename_i hov
        rw [List.mem_singleton] at h
        subst h
        unfold ovB at hov
        simp only [Bool.and_eq_true] at hov
        rw [ov_meet hov.1 hov.2.1]
        exact hov.2.2
      · simp at h
/-- The box has the cell. -/
def inBx (a b c d x y : Int) : Bool := decide (a ≤ x) && decide (x < c) && decide (b ≤ y) && decide (y < d)
theorem ixL_in (P Q R S : Nat → Int) (a b c d x y : Int) (hb : rvB a b c d = true) : ∀ i, (∀ k, k < i → rvB (P k) (Q k) (R k) (S k) = true) → inR (ixL P Q R S a b c d i) x y = (covB P Q R S x y i && inBx a b c d x y)
  | 0, _ => by simp [ixL, inR, covB]
  | i + 1, hv => by
    have ih := ixL_in P Q R S a b c d x y hb i (fun k hk => hv k (by omega))
    have hvi := hv i (by omega)
    have h1 := hi2_bd (P i) a
    have h2 := hi2_bd (Q i) b
    have h3 := lo2_bd (R i) c
    have h4 := lo2_bd (S i) d
    unfold ixL
    rw [inR_append, ih, covB, Bool.and_or_distrib_right]
    congr 1
    unfold ovB inBx
    rw [hvi, hb, Bool.true_and, Bool.true_and, Bool.eq_iff_iff]
    by_cases ho : hi2 (P i) a < lo2 (R i) c ∧ hi2 (Q i) b < lo2 (S i) d
    · rw [if_pos (by simpa using ho)]
      simp only [inR, List.any_cons, List.any_nil, Bool.or_false, Bool.and_eq_true, decide_eq_true_eq]
      omega
    · rw [if_neg (by simpa using ho)]
      simp only [inR, List.any_nil, Bool.and_eq_true, decide_eq_true_eq, Bool.false_eq_true, false_iff]
      omega
theorem covB_inR (l : List R4) (x y : Int) : covB (pA l) (pB l) (pC l) (pD l) x y l.length = inR l x y := by
  rw [Bool.eq_iff_iff, covB_t]
  unfold inR
  rw [List.any_eq_true]
  constructor
  · rintro ⟨i, hi, h1, h2, h3, h4⟩
    have hg := getD_get hi
    refine ⟨_, List.mem_of_getElem? hg, ?_⟩
    simp only [Bool.and_eq_true, decide_eq_true_eq]
    exact ⟨⟨⟨h1, h2⟩, h3⟩, h4⟩
  · rintro ⟨r, hr, h⟩
    obtain ⟨i, hi, he⟩ := List.getElem_of_mem hr
    simp only [Bool.and_eq_true, decide_eq_true_eq] at h
    have hg := getD_get hi
    rw [List.getElem?_eq_getElem hi, he] at hg
    have e := Option.some.inj hg
    refine ⟨i, hi, ?_⟩
    unfold pA pB pC pD
    rw [← e]
    exact ⟨h.1.1.1, h.1.1.2, h.1.2, h.2⟩
theorem okV_list (l : List R4) (hl : l.length ≤ 3200) (h : ∀ r, r ∈ l → rvB r.a r.b r.c r.d = true) : okV (pA l) (pB l) (pC l) (pD l) l.length = true := by
  unfold okV
  rw [decide_eq_true hl, Bool.true_and]
  refine allV_t fun i hi => ?_
  have hg := getD_get hi
  exact h _ (List.mem_of_getElem? hg)
/-- The region of a list of valid rectangles that covers the set. -/
theorem roL_of (l : List R4) (f : Nat → Bool) (hl : l.length ≤ 3200) (h : ∀ r, r ∈ l → rvB r.a r.b r.c r.d = true) (hc : ∀ x y, -40 ≤ x → x ≤ 39 → -40 ≤ y → y ≤ 39 → inR l x y = hasB f x y) : roL (pA l) (pB l) (pC l) (pD l) l.length = canonL f := by
  have ho := okV_list l hl h
  unfold roL
  rw [if_pos ho]
  refine canonL_same fun x y h1 h2 h3 h4 => ?_
  rw [hasB_cov (okV_all ho), covB_inR]
  exact hc x y h1 h2 h3 h4
theorem ixL_ro {P Q R S : Nat → Int} {n : Nat} {a b c d : Int} (hok : okR P Q R S n = true) (hb : rvB a b c d = true) (hn : n ≤ 3200) :
    roL (pA (ixL P Q R S a b c d n)) (pB (ixL P Q R S a b c d n)) (pC (ixL P Q R S a b c d n)) (pD (ixL P Q R S a b c d n)) (ixL P Q R S a b c d n).length = clL P Q R S n a b c d := by
  unfold clL
  rw [hok, hb, if_pos (by rfl)]
  have := ixL_len P Q R S a b c d n
  refine roL_of _ _ (by omega) (fun r hr => ixL_ok P Q R S a b c d n r hr) (fun x y h1 h2 h3 h4 => ?_)
  rw [ixL_in P Q R S a b c d x y hb n (okR_all hok), hasB_clip _ _ _ _ _ _ _ ⟨⟨h1, h2⟩, h3, h4⟩, hasB_cov (okR_all hok)]
  rfl
end Go.Proofs.YtfbalpkjcfdakaaGreatDoor

namespace Go.Proofs.YtfbalpkjcfdakaaGreatDoor
open Go.RowKit
set_option linter.unusedVariables false

theorem bandN_max (Q S : Nat → Int) (len : Nat) : ∀ n k, len - k ≤ n → bandN Q S len n k < len → ¬ (Q (bandN Q S len n k) = Q 0 ∧ S (bandN Q S len n k) = S 0)
  | 0, k, hk, h => by unfold bandN at h; omega
  | n + 1, k, hk, h => by
    rw [bandN] at h ⊢
    by_cases hc : k < len ∧ Q k = Q 0 ∧ S k = S 0
    · rw [if_pos hc] at h ⊢
      exact bandN_max Q S len n (k + 1) (by omega) h
    · rw [if_neg hc] at h ⊢
      exact fun e => hc ⟨h, e⟩
theorem rowsQ_mem : ∀ (f : Nat) (P Q R S : Nat → Int) (n : Nat) (e : RowE), (∀ i, i < n → rvB (P i) (Q i) (R i) (S i) = true) → e ∈ rowsQ f P Q R S n → ∃ i, i < n ∧ Q i ≤ e.1 ∧ e.1 < S i
  | 0, P, Q, R, S, n, e, _, he => by simp [rowsQ] at he
  | f + 1, P, Q, R, S, n, e, hv, he => by
    rw [rowsQ] at he
    by_cases h0 : n = 0
    · rw [if_pos h0] at he; simp at he
    · rw [if_neg h0] at he
      obtain ⟨hN1, hN2, hN3⟩ := bandN_spec Q S n n 1 (by omega)
      generalize bandN Q S n n 1 = N at hN1 hN2 hN3 he
      rcases List.mem_append.1 he with he | he
      · obtain ⟨j, hj, rfl⟩ := List.mem_map.1 he
        have hj' := List.mem_range.1 hj
        have v0 := rvB_t (hv 0 (by omega))
        exact ⟨0, by omega, by dsimp only; omega, by dsimp only; omega⟩
      · obtain ⟨i, h1, h2, h3⟩ := rowsQ_mem f _ _ _ _ _ e (fun i hi => hv (N + i) (by omega)) he
        exact ⟨N + i, by omega, h2, h3⟩

theorem rowsQ_row (x : Int) (hx : -40 ≤ x ∧ x ≤ 39) : ∀ (f : Nat) (P Q R S : Nat → Int) (n : Nat), n ≤ f → (∀ i, i < n → rvB (P i) (Q i) (R i) (S i) = true) → (∀ i j, i < j → j < n → (Q i = Q j ∧ S i = S j) ∨ S i ≤ Q j) →
    ∀ e, e ∈ rowsQ f P Q R S n → (colB e.2.1 e.2.2 (x + 40).toNat = true ↔ ∃ i, i < n ∧ P i ≤ x ∧ x < R i ∧ Q i ≤ e.1 ∧ e.1 < S i)
  | 0, P, Q, R, S, n, hn, _, _, e, he => by simp [rowsQ] at he
  | f + 1, P, Q, R, S, n, hn, hv, ho, e, he => by
    rw [rowsQ] at he
    by_cases h0 : n = 0
    · rw [if_pos h0] at he; simp at he
    · rw [if_neg h0] at he
      obtain ⟨hN1, hN2, hN3⟩ := bandN_spec Q S n n 1 (by omega)
      have hN4 := bandN_max Q S n n 1 (by omega)
      generalize bandN Q S n n 1 = N at hN1 hN2 hN3 hN4 he
      have ih := rowsQ_row x hx f (shN N P) (shN N Q) (shN N R) (shN N S) (n - N) (by omega) (fun i hi => hv (N + i) (by omega)) (fun i j hij hj => ho (N + i) (N + j) (by omega) (by omega))
      have hband : ∀ i, i < N → Q i = Q 0 ∧ S i = S 0 := fun i hi => by
        by_cases e : i = 0
        · rw [e]; exact ⟨rfl, rfl⟩
        · exact hN3 i (by omega) hi
      have hc := col_cov P R x hx N fun i hi => by have := rvB_t (hv i (by omega)); omega
      have v0 := rvB_t (hv 0 (by omega))
      have hfar : ∀ i, N ≤ i → i < n → S 0 ≤ Q i := fun i h1 h2 => by
        have g1 : S 0 ≤ Q N := by
          rcases ho 0 N (by omega) (by omega) with h | h
          · exact absurd ⟨h.1.symm, h.2.symm⟩ (hN4 (by omega))
          · exact h
        by_cases e : i = N
        · rw [e]; exact g1
        · have vN := rvB_t (hv N (by omega))
          rcases ho N i (by omega) h2 with h | h <;> omega
      rcases List.mem_append.1 he with he | he
      · obtain ⟨j, hj, rfl⟩ := List.mem_map.1 he
        have hj' := List.mem_range.1 hj
        dsimp only
        rw [hc]
        constructor
        · rintro ⟨i, i1, i2, i3⟩
          obtain ⟨q1, q2⟩ := hband i i1
          exact ⟨i, by omega, i2, i3, by omega, by omega⟩
        · rintro ⟨i, i1, i2, i3, i4, i5⟩
          by_cases hi : i < N
          · exact ⟨i, hi, i2, i3⟩
          · have := hfar i (by omega) i1
            omega
      · obtain ⟨i', k1, k2, k3⟩ := rowsQ_mem f _ _ _ _ _ e (fun i hi => hv (N + i) (by omega)) he
        replace k2 : Q (N + i') ≤ e.1 := k2
        replace k3 : e.1 < S (N + i') := k3
        have k4 := hfar (N + i') (by omega) (by omega)
        rw [ih e he]
        constructor
        · rintro ⟨i, i1, i2⟩
          exact ⟨N + i, by omega, i2⟩
        · rintro ⟨i, i1, i2, i3, i4, i5⟩
          by_cases hi : i < N
          · obtain ⟨q1, q2⟩ := hband i hi
            omega
          · exact ⟨i - N, by omega, by unfold shN; rw [show N + (i - N) = i by omega]; exact ⟨i2, i3, i4, i5⟩⟩

/-- A region's row: the words that come with it. -/
theorem rowsQ_has {P Q R S : Nat → Int} {n : Nat} (hok : okR P Q R S n = true) (e : RowE) (he : e ∈ rowsQ n P Q R S n) (c : Nat) (hc : c < 80) : colB e.2.1 e.2.2 c = hasB (covF P Q R S n) ((c : Int) - 40) e.1 := by
  have h := rowsQ_row ((c : Int) - 40) (by omega) n P Q R S n (Nat.le_refl _) (okR_all hok) (fun i j hij hj => (okR_ord hok hij hj).imp (fun h => ⟨h.1, h.2.1⟩) id) e he
  rw [show ((c : Int) - 40 + 40).toNat = c by omega] at h
  rw [Bool.eq_iff_iff, h, hasB_cov (okR_all hok), covB_t]
/-- Every row that a rectangle meets comes. -/
theorem rowsQ_all {P Q R S : Nat → Int} {n : Nat} (hok : okR P Q R S n = true) (y : Int) (hno : ∀ e, e ∈ rowsQ n P Q R S n → e.1 ≠ y) (x : Int) : hasB (covF P Q R S n) x y = false := by
  rw [Bool.eq_false_iff]
  intro h
  rw [hasB_cov (okR_all hok), covB_t] at h
  obtain ⟨i, h1, h2, h3, h4, h5⟩ := h
  have v := rvB_t (okR_all hok i h1)
  obtain ⟨e, he, h6, -⟩ := (rowsQ_cov x y (by omega) n P Q R S n (Nat.le_refl _) (okR_all hok)).2 ⟨i, h1, h2, h3, h4, h5⟩
  exact hno e he h6
end Go.Proofs.YtfbalpkjcfdakaaGreatDoor

namespace Go.Proofs.YtfbalpkjcfdakaaGreatDoor
open Go.ChangeShapes Go.WideShapes Go.RowKit Go.Deep
set_option linter.unusedVariables false

theorem addNk' (b o k : Nat) : (⟨b, o, none⟩ : Addr).add k = ⟨b, o + k, none⟩ := by
  unfold Addr.add
  split
  · rename_i h; subst h; rfl
  · rfl

theorem rects_open {H : Type} {enc : TypeId × Value → H} {W : World} {fuel : Nat} {a : Option Addr} {len cap : Nat} {x : DataW H × List MemPlace}
    (hf : DataW.trod enc Tryz.prog W 0 (fun _ => true) true fuel 22 (Value.slice a len cap).cells.toList = some x) : len ≤ maxLen ∧ ∃ P Q R S : Nat → Int, RectsIs W.heap.size W a len P Q R S := by
  have c1 : Tryz.prog.cellsOf 2 = 1 := by kernel_rfl
  have c2 : Tryz.prog.cellsOf 67 = 4 := by kernel_rfl
  rcases open_slice Tryz.underlying22 hf with ⟨hcs, _⟩ | ⟨ad, l, c, m, nn, D, Pl, hcs, hb, hl, hm, hmm, _, hi⟩
  · simp [Value.cells] at hcs
    obtain ⟨rfl, rfl, rfl⟩ := hcs
    exact ⟨Nat.zero_le _, fun _ => 0, fun _ => 0, fun _ => 0, fun _ => 0, fun k hk => absurd hk (by omega)⟩
  · simp [Value.cells] at hcs
    obtain ⟨rfl, rfl, rfl⟩ := hcs
    simp at hmm
    rw [c2] at hi
    obtain ⟨V, hV⟩ := choose_lt (α := Int × Int × Int × Int) (n := len) (p := fun i v => ∃ b off : Nat, some ad = some ⟨b, off, none⟩ ∧ b < W.heap.size ∧ W.cell? ⟨b, off + i * 4, none⟩ = some (.int .i64 v.1) ∧ W.cell? ⟨b, off + i * 4 + 1, none⟩ = some (.int .i64 v.2.1) ∧ W.cell? ⟨b, off + i * 4 + 2, none⟩ = some (.int .i64 v.2.2.1) ∧ W.cell? ⟨b, off + i * 4 + 3, none⟩ = some (.int .i64 v.2.2.2)) (fun i hil => by
      have hi0 := hi 0 (by omega)
      obtain ⟨cs0, hc0, _⟩ := hi0
      obtain ⟨cs', hc, ht⟩ := hi i (by omega)
      obtain ⟨_, hcl0, hat0⟩ := World.cells?_some hc0
      obtain ⟨_, hcl, hat⟩ := World.cells?_some hc
      have hz := hat0 0 (by omega)
      rw [List.getElem?_eq_getElem (by omega)] at hz
      simp [Addr.add] at hz
      have hsp : ad.spot = none := Go.Proofs.cell_spot hz
      obtain ⟨b, off, sp⟩ := ad
      obtain rfl : sp = none := hsp
      match cs', hcl with
      | [v0, v1, v2, v3], _ =>
        obtain ⟨xs, n', _, _, _, hlen, hfl⟩ := DataW.trod_struct Tryz.underlying67 ht
        match xs, hlen with
        | [y0, y1, y2, y3], _ =>
        have h0 := hfl 0 _ rfl
        have h1 := hfl 1 _ rfl
        have h2 := hfl 2 _ rfl
        have h3 := hfl 3 _ rfl
        have e0 := hat 0 (by omega)
        have e1 := hat 1 (by omega)
        have e2 := hat 2 (by omega)
        have e3 := hat 3 (by omega)
        rw [Go.Deep.add_add, addNk'] at e0 e1 e2 e3
        simp at e0 e1 e2 e3
        have k0 : DataW.trod enc Tryz.prog W 0 (fun _ => true) true n' 2 [v0] = some y0 := by simpa [c1] using h0
        have k1 : DataW.trod enc Tryz.prog W 0 (fun _ => true) true n' 2 [v1] = some y1 := by simpa [c1] using h1
        have k2 : DataW.trod enc Tryz.prog W 0 (fun _ => true) true n' 2 [v2] = some y2 := by simpa [c1] using h2
        have k3 : DataW.trod enc Tryz.prog W 0 (fun _ => true) true n' 2 [v3] = some y3 := by simpa [c1] using h3
        obtain ⟨z0, g0, _, _⟩ := DataW.trod_int Tryz.underlying2 k0
        obtain ⟨z1, g1, _, _⟩ := DataW.trod_int Tryz.underlying2 k1
        obtain ⟨z2, g2, _, _⟩ := DataW.trod_int Tryz.underlying2 k2
        obtain ⟨z3, g3, _, _⟩ := DataW.trod_int Tryz.underlying2 k3
        simp at g0 g1 g2 g3
        subst g0 g1 g2 g3
        exact ⟨(z0, z1, z2, z3), b, off, rfl, World.block_lt_of_cell? W ⟨b, off + i * 4, none⟩ e0, e0, by simpa [Nat.add_assoc] using e1, by simpa [Nat.add_assoc] using e2, by simpa [Nat.add_assoc] using e3⟩)
    exact ⟨by omega, fun i => (V i).1, fun i => (V i).2.1, fun i => (V i).2.2.1, fun i => (V i).2.2.2, fun i hi => hV i hi⟩
end Go.Proofs.YtfbalpkjcfdakaaGreatDoor
