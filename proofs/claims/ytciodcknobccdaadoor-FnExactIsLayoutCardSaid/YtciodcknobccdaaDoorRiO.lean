/- The set of unit cells that the program makes of a list. Conditions: the elements' cells are in memory. -/
import Derived.Test.YtciodcknobccdaaDoorRiN
import Derived.Test.YtciodcknobccdaaDoorReB
namespace Go.Proofs.YtciodcknobccdaaDoor
open Go.RowKit Go.Shelf
set_option linter.unusedVariables false
set_option linter.unusedSimpArgs false
attribute [local go_sem] Oper.semAt_some

theorem rep_arr (n : Nat) (G : Nat → Nat) (hG : ∀ j, G j = 0) : (List.replicate n (Value.int .u64 0)).toArray = (Array.range n).map fun j => Value.int .u64 (G j : Int) := by
  apply Array.ext_getElem?
  intro i
  by_cases hi : i < n
  · simp [hi, hG]
  · simp [hi]
theorem zero59 : Tryd.zeroCells151 = wArr (fun _ => 0) := by
  have h : Tryd.zeroCells151 = (List.replicate 160 (Value.int .u64 0)).toArray := by kernel_rfl
  rw [h]
  exact rep_arr 160 (fun _ => 0) (fun _ => rfl)
theorem loadVar59 {W : World} {g : Nat} {G : Nat → Nat} (h : RowsAt W g G) : (loadVar 151 ⟨g, 0, none⟩).run Tryd.prog W = .ok (.agg (wArr G)) W :=
  run_loadVar_row W g 151 151 (wArr G) (0, 0) _ h Tryd.underlying151 rfl (by rw [wArr_size]; kernel_rfl)
theorem loadAt59 {W : World} {g : Nat} {G : Nat → Nat} (h : RowsAt W g G) : (Instr.loadAt 151 (.pointer (some ⟨g, 0, none⟩))).run Tryd.prog W = .ok (.agg (wArr G)) W := by
  simp only [Instr.loadAt, Instr.sureAddr, Sem.run_bind, Sem.run_pure, Result.andThen]
  exact loadVar59 h
theorem storeAt59 {W : World} {g : Nat} {G0 : Nat → Nat} (G : Nat → Nat) (h : RowsAt W g G0) : (Instr.storeAt 151 (.pointer (some ⟨g, 0, none⟩)) (.agg (wArr G))).run Tryd.prog W = .ok () (W.setRow g (wArr G)) := by
  simp only [Instr.storeAt, Instr.sureAddr, Sem.run_bind, Sem.run_pure, Result.andThen]
  refine run_storeVar_row W g 151 151 (wArr G0) (wArr G) h (by rw [wArr_size]; kernel_rfl) (by rw [wArr_size, wArr_size]) ?_
  rw [Array.all_eq_true]
  intro i hi
  simp [wArr, Value.oneCell']
theorem op_load59 {o : Oper} {s : Tmp} (ho : o.op = .load 151 (.tmp s)) {a : Act} {w : World} {K : Act → World → Prop} {Q : Exit → Act → World → Prop} {g : Nat} {G : Nat → Nat}
    (he : a.eval (.tmp s) = .pointer (some ⟨g, 0, none⟩)) (h : RowsAt w g G) (hk : K (a.put o.dst (.agg (wArr G))) w) : o.wp Tryd.prog a w K Q := by
  unfold Oper.wp execOp
  rw [ho]
  simp only [he, Sem.run_bind, loadAt59 h, Result.andThen, Sem.run_pure]
  exact hk
theorem op_store59 {o : Oper} {d s : Tmp} (ho : o.op = .store 151 (.tmp d) (.tmp s)) {a : Act} {w : World} {K : Act → World → Prop} {Q : Exit → Act → World → Prop} {g : Nat} {G0 G : Nat → Nat}
    (he : a.eval (.tmp d) = .pointer (some ⟨g, 0, none⟩)) (hv : a.eval (.tmp s) = .agg (wArr G)) (h : RowsAt w g G0) (hk : K (a.put o.dst undef) (w.setRow g (wArr G))) : o.wp Tryd.prog a w K Q := by
  unfold Oper.wp execOp
  rw [ho]
  simp only [he, hv, Sem.run_bind, storeAt59 G h, Result.andThen, Sem.run_pure]
  exact hk
theorem leaves_one {P : Program} {fn : Func} {tmps : Array Value} {R : Ending → World → Prop} {D : Nat} {w : World} (hD : w.heap[D]? = some (.deferred (some []))) {v : Value}
    (h : ∀ w', w' = w.putObj D (.deferred none) → (results fn tmps).run P w' = .ok v w' ∧ R (.returned v) w') : LeavesInM Fence.wide 9 P fn tmps R [{ target := .collected D, args := #[] }] .returning w :=
  ⟨by simp, .inl ⟨D, _, rfl, run_takeDeferred hD, v, (h _ rfl).1, (h _ rfl).2⟩⟩
theorem RowsAt.setRow {W : World} {g : Nat} {G0 : Nat → Nat} (G : Nat → Nat) (h : RowsAt W g G0) : RowsAt (W.setRow g (wArr G)) g G := setRow_heap W g _ _ _ _ h
theorem setRow_other (W : World) (g : Nat) (cs : Array Value) {k : Nat} (hk : k ≠ g) : (W.setRow g cs).heap[k]? = W.heap[k]? := by
  simp only [World.setRow, Array.getElem?_modify]
  rw [if_neg (by omega)]
theorem setRow_size (W : World) (g : Nat) (cs : Array Value) : (W.setRow g cs).heap.size = W.heap.size := by simp [World.setRow]
theorem Kept.setRow {X : Nat → Prop} {a w : World} (h : Kept X a w) {g : Nat} (hX : X g) (cs : Array Value) : Kept X a (w.setRow g cs) :=
  h.trans ⟨rfl, rfl, rfl, Nat.le_of_eq (setRow_size _ _ _).symm, fun k _ hk => setRow_other _ _ _ (fun e => hk (by rw [e]; exact hX))⟩

theorem below_setRow {n : Nat} (w : World) {g : Nat} (cs : Array Value) (h : n ≤ g) : Below n w (w.setRow g cs) := ⟨rfl, rfl, rfl, Nat.le_of_eq (setRow_size _ _ _).symm, fun k hk => setRow_other _ _ _ (by omega)⟩

def okN (P Q R S : Nat → Int) (n : Nat) : Bool := decide (n ≤ 3200) && allV P Q R S n
/-- The words that come back. -/
def cellsG (P Q R S : Nat → Int) (n : Nat) : Nat → Nat := if okN P Q R S n = true then rowsG (rowsQ n P Q R S n) else fun _ => 0

set_option maxRecDepth 100000 in
set_option maxHeartbeats 8000000 in
theorem cells_any (m : Option Addr) (n cap : Nat) (P Q R S : Nat → Int) (w : World) (hC : ChipW w) (hn : n ≤ 1048576) (hcap : n ≤ cap) (hR : RectsIs w.heap.size w m n P Q R S) :
    Calls Tryd.prog 131 #[.slice m n cap] w fun e w' => e = .returned (.tuple #[.agg (wArr (cellsG P Q R S n)), .bool (okN P Q R S n)]) ∧ Below w.heap.size w w' := by
  have hz := zero59
  refine calls_of_marks Tryd.func131 rfl ?_
  simp only [Tryd.ntmps131, List.size_toArray, List.length_cons, List.length_nil, Nat.reduceAdd, Nat.reduceSub, Array.replicate_succ, Array.replicate_zero, List.push_toArray, List.append_toArray, List.nil_append, List.cons_append]
  by_cases h1 : n ≤ 3200
  · have q1 : ¬ (n : Int) > 3200 := by omega
    have q2 : ¬ (3200 : Int) < (n : Int) := by omega
    cases h2 : allV P Q R S n with
    | false =>
      have hok : okN P Q R S n = false := by unfold okN; rw [h2, Bool.and_false]
      have hcg : cellsG P Q R S n = fun _ => 0 := by unfold cellsG; rw [hok]; rfl
      rw [hok, hcg]
      go_upto_region 3 with (first | (go_at_call 149; refine (areValid_any m n cap P Q R S _ (hC.ext (by (repeat (first | (with_reducible exact Below.refl _ _) | (with_reducible refine Ext.drewN ?_ _) | (with_reducible refine Below.drew ?_) | (with_reducible refine Ext.alloc ?_ _) | (with_reducible refine Ext.setCell ?_ (by simp; try omega) _) | (with_reducible refine Ext.trans ?_ (by assumption)) | (with_reducible assumption) | exact Below.refl _ _)))) hn (hR.ext (by (repeat (first | (with_reducible exact Below.refl _ _) | (with_reducible refine Ext.drewN ?_ _) | (with_reducible refine Below.drew ?_) | (with_reducible refine Ext.alloc ?_ _) | (with_reducible refine Ext.setCell ?_ (by simp; try omega) _) | (with_reducible refine Ext.trans ?_ (by assumption)) | (with_reducible assumption) | exact Below.refl _ _))))).mono ?_; rintro e w1 ⟨rfl, bw1⟩; rw [h2]; have s1 := bw1.size; have r1 : RowsAt w1 w.heap.size (fun _ => 0) := RowsAt.ext (RowsAt.ext (RowsAt.new w _) ((Below.refl _ _).alloc (Nat.le_refl _) _)) bw1; have r2 : RowsAt w1 (w.heap.size + 1) (fun _ => 0) := RowsAt.ext (by have := RowsAt.new (w.alloc (.cells (wArr fun _ => 0) 151)) (fun _ => 0); rwa [World.size_alloc] at this) bw1))
      refine wp_region_lit ?_
      unfold wpList
      rw [if_pos (by rfl)]
      refine .inl (op_load59 rfl rfl r2 ?_)
      unfold wpList
      rw [if_pos (by rfl)]
      refine .inl (op_store59 (d := 2) (s := 15) (G := fun _ => 0) ?_ ?_ ?_ r1 ?_)
      · rfl
      · rfl
      · rfl
      simp only [go_sem, Act.put]
      go_wp2_with fail
      have bw : Below w.heap.size w w1 := Below.trans (by (repeat (first | (with_reducible exact Below.refl _ _) | (with_reducible refine Ext.drewN ?_ _) | (with_reducible refine Below.drew ?_) | (with_reducible refine Ext.alloc ?_ _) | (with_reducible refine Ext.setCell ?_ (by simp; try omega) _) | (with_reducible refine Ext.trans ?_ (by assumption)) | (with_reducible assumption) | exact Below.refl _ _))) (bw1.mono (by simp))
      exact ⟨.tuple #[.agg (wArr fun _ => 0), .bool false], by rw [results_cell_tmp rfl]; simp [asAddr, Result.andThen, loadVar59 (r1.setRow _)], rfl, bw.trans (below_setRow _ _ (Nat.le_refl _))⟩
    | true =>
      have hok : okN P Q R S n = true := by unfold okN; rw [h2, decide_eq_true h1]; rfl
      have hcg : cellsG P Q R S n = rowsG (rowsQ n P Q R S n) := by unfold cellsG; rw [hok]; rfl
      have hv : ∀ i, i < n → rvB (P i) (Q i) (R i) (S i) = true := fun i hi => allV_at h2 hi
      rw [hok, hcg]
      go_wp2_with (first | (go_at_call 149; refine (areValid_any m n cap P Q R S _ (hC.ext (by (repeat (first | (with_reducible exact Below.refl _ _) | (with_reducible refine Ext.drewN ?_ _) | (with_reducible refine Below.drew ?_) | (with_reducible refine Ext.alloc ?_ _) | (with_reducible refine Ext.setCell ?_ (by simp; try omega) _) | (with_reducible refine Ext.trans ?_ (by assumption)) | (with_reducible assumption) | exact Below.refl _ _)))) hn (hR.ext (by (repeat (first | (with_reducible exact Below.refl _ _) | (with_reducible refine Ext.drewN ?_ _) | (with_reducible refine Below.drew ?_) | (with_reducible refine Ext.alloc ?_ _) | (with_reducible refine Ext.setCell ?_ (by simp; try omega) _) | (with_reducible refine Ext.trans ?_ (by assumption)) | (with_reducible assumption) | exact Below.refl _ _))))).mono ?_; rintro e w1 ⟨rfl, bw1⟩; rw [h2]; have s1 := bw1.size; have r1 : RowsAt w1 w.heap.size (fun _ => 0) := RowsAt.ext (RowsAt.ext (RowsAt.new w _) ((Below.refl _ _).alloc (Nat.le_refl _) _)) bw1; have r2 : RowsAt w1 (w.heap.size + 1) (fun _ => 0) := RowsAt.ext (by have := RowsAt.new (w.alloc (.cells (wArr fun _ => 0) 151)) (fun _ => 0); rwa [World.size_alloc] at this) bw1) | (go_at_call 150; refine (rowsOf_any _ _ _ _).mono ?_; rintro e w2 ⟨rfl, hw2⟩; subst hw2))
      obtain ⟨wS, hwS⟩ : ∃ wS, wS = w1.alloc (.cells #[.slice m n cap] 105) := ⟨_, rfl⟩
      have sS : wS.heap.size = w1.heap.size + 1 := by rw [hwS]; simp
      have bS : Below w1.heap.size w1 wS := by rw [hwS]; (repeat (first | (with_reducible exact Below.refl _ _) | (with_reducible refine Ext.drewN ?_ _) | (with_reducible refine Below.drew ?_) | (with_reducible refine Ext.alloc ?_ _) | (with_reducible refine Ext.setCell ?_ (by simp; try omega) _) | (with_reducible refine Ext.trans ?_ (by assumption)) | (with_reducible assumption) | exact Below.refl _ _))
      have cS : wS.cell? ⟨w1.heap.size, 0, none⟩ = some (.slice m n cap) := by rw [hwS]; simp [go_sem]
      have rS1 := r1.ext bS
      have rS2 := r2.ext bS
      have bw : Below w.heap.size w w1 := Below.trans (by (repeat (first | (with_reducible exact Below.refl _ _) | (with_reducible refine Ext.drewN ?_ _) | (with_reducible refine Below.drew ?_) | (with_reducible refine Ext.alloc ?_ _) | (with_reducible refine Ext.setCell ?_ (by simp; try omega) _) | (with_reducible refine Ext.trans ?_ (by assumption)) | (with_reducible assumption) | exact Below.refl _ _))) (bw1.mono (by simp))
      have bwS := Ext.trans bw bS
      have RS := Lib.hid (hR.ext bwS)
      have sw : w.heap.size + 2 ≤ w1.heap.size := by have := bw1.size; simp at this; omega
      rw [← hwS]
      clear hwS r1 r2 hcg
      refine rangeX2 (gf := 166) (lb := #[.pointer (some ⟨w1.heap.size, 0, none⟩)]) rfl (enters_of Tryd.func166 (by kernel_rfl) rfl) (encs := fun e : RowE => #[.int .i64 e.1, colV e.2.1 e.2.2]) (L := rowsQ n P Q R S n) (fun k => k = w.heap.size + 1) (fun k hk => by omega) ?hseq (fun _ => rfl)
        (fun ps V => RowsAt V (w.heap.size + 1) (rowsG ps) ∧ Kept (fun k => k = w.heap.size + 1) wS V)
        (fun _ _ _ => False)
        (fun s A B hs hb => ⟨hs.1.below hb (by omega), ⟨hb.os.trans hs.2.os, hb.tape.trans hs.2.tape, hb.output.trans hs.2.output, Nat.le_trans hs.2.size hb.size, fun k hk hX => (hb.block k hk).trans (hs.2.block k hk hX)⟩⟩)
        (fun _ _ _ _ h _ => h) ⟨rS2, Kept.refl _ _⟩
        (fun T e Bx => (((T.setIfInBounds 18 (.int .i64 e.1)).setIfInBounds 19 (colV e.2.1 e.2.2)).setIfInBounds 5 (.int .i64 e.1)).setIfInBounds 6 (.pointer (some ⟨Bx, 0, none⟩))) (fun e => .cells #[.int .u64 (e.2.1 : Int), .int .u64 (e.2.2 : Int)] 149) ?assign ?body ?done ?stop
      case hseq =>
        intro V hV hVs
        exact rowsOf_seq _ w1.heap.size m n cap n P Q R S V ((hV.cell (p := ⟨w1.heap.size, 0, none⟩) (show w1.heap.size < wS.heap.size by omega)).trans cS) (by omega) (fun k hk => by omega) hn hcap (Nat.le_refl _) (RS.out.ext hV) (fun h0 b off e => by
          obtain ⟨b1, o1, e1, h1, -⟩ := hR 0 h0
          rw [e1] at e
          cases e
          omega) hv
      case assign =>
        intro l e V K hK
        gi_wp2
        exact hK
      case body =>
        intro l ps e post Bx V hL hBx hVB ⟨hr, hk⟩
        obtain ⟨⟨v1, v2⟩, v3, v4⟩ := rowsQ_ok n P Q R S n hv e (by rw [hL]; simp)
        have v5 : W64 e.2.2 := by unfold W64; omega
        have v6 := (rowsG_ok 0 ps (fun e' he' => rowsQ_ok n P Q R S n hv e' (by rw [hL]; simp [he']))).1
        have c0 : V.cell? ⟨Bx, 0, none⟩ = some (.int .u64 (e.2.1 : Int)) := by rw [cell_of_row _ _ 0 _ _ _ hVB]; rfl
        have c1 : V.cell? ⟨Bx, 1, none⟩ = some (.int .u64 (e.2.2 : Int)) := by rw [cell_of_row _ _ 1 _ _ _ hVB]; rfl
        have HVB := Lib.hid hVB
        clear hVB
        dsimp only
        gi_wp2_with (refine ⟨trivial, ?_⟩; gi_at_call 151; refine (CallsIn.inRound l (callsIn_wide.2 (add_any (w.heap.size + 1) (rowsG ps) e.1 e.2.1 e.2.2 _ v1 v2 v3 v5 v6 hr))).mono ?_; rintro e9 W9 ⟨rfl, k1, k2⟩)
        exact ⟨k2, by rw [rowsG_snoc]; exact k1, hk.trans k2⟩
      case done =>
        rintro D V hDq ⟨hr, hk⟩ hDV
        have r1V := rS1.kept hk (by omega)
        dsimp only
        go_upto_region 8 with fail
        refine wp_region_lit ?_
        unfold wpList
        rw [if_pos (by rfl)]
        refine .inl (op_load59 rfl rfl hr ?_)
        unfold wpList
        rw [if_pos (by rfl)]
        refine .inl (op_store59 (d := 2) (s := 23) (G := rowsG (rowsQ n P Q R S n)) ?_ ?_ ?_ r1V ?_)
        · rfl
        · rfl
        · rfl
        simp only [go_sem, Act.put]
        go_wp2_with fail
        refine leaves_one (D := D) (v := .tuple #[.agg (wArr (rowsG (rowsQ n P Q R S n))), .bool true]) ((setRow_other _ _ _ (by omega)).trans hDV) (fun w' hw' => ?_)
        have r9 : RowsAt w' w.heap.size (rowsG (rowsQ n P Q R S n)) := by
          rw [hw']
          exact (World.putObj_heap_other (by omega)).trans (r1V.setRow _)
        refine ⟨by rw [results_cell_tmp rfl]; simp [asAddr, Result.andThen, loadVar59 r9], rfl, ?_⟩
        rw [hw']
        exact ((bwS.trans (hk.below (n := w.heap.size) (by omega) (fun k hk' e => by omega))).trans (below_setRow _ _ (Nat.le_refl _))).trans (below_putObj _ _ (by omega))
      case stop =>
        intro D c ps V _ _ h _
        exact h.elim
  · have q1 : (n : Int) > 3200 := by omega
    have q2 : (3200 : Int) < (n : Int) := by omega
    have hok : okN P Q R S n = false := by unfold okN; rw [decide_eq_false h1]; rfl
    have hcg : cellsG P Q R S n = fun _ => 0 := by unfold cellsG; rw [hok]; rfl
    rw [hok, hcg]
    have r1 : RowsAt ((w.alloc (.cells (wArr fun _ => 0) 151)).alloc (.cells (wArr fun _ => 0) 151)) w.heap.size (fun _ => 0) := RowsAt.ext (RowsAt.new w _) ((Below.refl _ _).alloc (Nat.le_refl _) _)
    have r2 : RowsAt ((w.alloc (.cells (wArr fun _ => 0) 151)).alloc (.cells (wArr fun _ => 0) 151)) (w.heap.size + 1) (fun _ => 0) := by have := RowsAt.new (w.alloc (.cells (wArr fun _ => 0) 151)) (fun _ => 0); rwa [World.size_alloc] at this
    go_upto_region 3 with fail
    refine wp_region_lit ?_
    unfold wpList
    rw [if_pos (by rfl)]
    refine .inl (op_load59 rfl rfl r2 ?_)
    unfold wpList
    rw [if_pos (by rfl)]
    refine .inl (op_store59 (d := 2) (s := 15) (G := fun _ => 0) ?_ ?_ ?_ r1 ?_)
    · rfl
    · rfl
    · rfl
    simp only [go_sem, Act.put]
    go_wp2_with fail
    exact ⟨.tuple #[.agg (wArr fun _ => 0), .bool false], by rw [results_cell_tmp rfl]; simp [asAddr, Result.andThen, loadVar59 (r1.setRow _)], rfl, Below.trans (by (repeat (first | (with_reducible exact Below.refl _ _) | (with_reducible refine Ext.drewN ?_ _) | (with_reducible refine Below.drew ?_) | (with_reducible refine Ext.alloc ?_ _) | (with_reducible refine Ext.setCell ?_ (by simp; try omega) _) | (with_reducible refine Ext.trans ?_ (by assumption)) | (with_reducible assumption) | exact Below.refl _ _))) (below_setRow _ _ (Nat.le_refl _))⟩
end Go.Proofs.YtciodcknobccdaaDoor
