/- Slices of rectangles: copied into the program's type, compared, measured. Conditions: the elements' cells are in memory. -/
import Derived.Test.YtciodcknobccdaaDoorReH
import Derived.Laws.OwnMore
namespace Go.Proofs.YtciodcknobccdaaDoor
open Go.RowKit
set_option linter.unusedVariables false
set_option linter.unusedSimpArgs false
attribute [local go_sem ↓] Go.wp_at_zero Go.wp_at_succ

/-- The first i rectangles of a new row at block g have been filled in; the others are zero. -/
def FillR (g len i : Nat) (w : World) (P Q R S : Nat → Int) : Prop :=
  ∀ k, k < len → (w.cell? ⟨g, k * 4, none⟩ = some (.int .i64 (if k < i then P k else 0)) ∧ w.cell? ⟨g, k * 4 + 1, none⟩ = some (.int .i64 (if k < i then Q k else 0)) ∧ w.cell? ⟨g, k * 4 + 2, none⟩ = some (.int .i64 (if k < i then R k else 0)) ∧ w.cell? ⟨g, k * 4 + 3, none⟩ = some (.int .i64 (if k < i then S k else 0))) ∧ w.frozen? ⟨g, k * 4, none⟩ = false ∧ w.frozen? ⟨g, k * 4 + 1, none⟩ = false ∧ w.frozen? ⟨g, k * 4 + 2, none⟩ = false ∧ w.frozen? ⟨g, k * 4 + 3, none⟩ = false
theorem other_cell {g : Nat} {w : World} {i j : Nat} {u v : Value} (hij : i ≠ j) (hc : w.cell? ⟨g, i, none⟩ = some v) : (w.setCell ⟨g, j, none⟩ u).cell? ⟨g, i, none⟩ = some v := by
  rw [World.cell?_setCell_other _ _ _ _ (by simp <;> omega)]; exact hc
theorem FillR.step {g len i : Nat} {w : World} {P Q R S : Nat → Int} (h : FillR g len i w P Q R S) (hi : i < len) : FillR g len (i + 1) ((((w.setCell ⟨g, i * 4, none⟩ (.int .i64 (P i))).setCell ⟨g, i * 4 + 1, none⟩ (.int .i64 (Q i))).setCell ⟨g, i * 4 + 2, none⟩ (.int .i64 (R i))).setCell ⟨g, i * 4 + 3, none⟩ (.int .i64 (S i))) P Q R S := by
  intro k hk
  obtain ⟨⟨c0, c1, c2, c3⟩, f0, f1, f2, f3⟩ := h k hk
  refine ⟨?_, by simpa using f0, by simpa using f1, by simpa using f2, by simpa using f3⟩
  by_cases e : k = i
  · subst e
    simp only [show k < k + 1 by omega, if_true]
    refine ⟨?_, ?_, ?_, ?_⟩
    · exact other_cell (by omega) (other_cell (by omega) (other_cell (by omega) (World.cell?_setCell_same _ _ _ c0)))
    · exact other_cell (by omega) (other_cell (by omega) (World.cell?_setCell_same _ _ _ (other_cell (by omega) c1)))
    · exact other_cell (by omega) (World.cell?_setCell_same _ _ _ (other_cell (by omega) (other_cell (by omega) c2)))
    · exact World.cell?_setCell_same _ _ _ (other_cell (by omega) (other_cell (by omega) (other_cell (by omega) c3)))
  · have hq : (k < i + 1) = (k < i) := by apply propext; omega
    simp only [hq]
    refine ⟨?_, ?_, ?_, ?_⟩
    · exact other_cell (by omega) (other_cell (by omega) (other_cell (by omega) (other_cell (by omega) c0)))
    · exact other_cell (by omega) (other_cell (by omega) (other_cell (by omega) (other_cell (by omega) c1)))
    · exact other_cell (by omega) (other_cell (by omega) (other_cell (by omega) (other_cell (by omega) c2)))
    · exact other_cell (by omega) (other_cell (by omega) (other_cell (by omega) (other_cell (by omega) c3)))
theorem FillR.below {g len i : Nat} {w w' : World} {P Q R S : Nat → Int} (h : FillR g len i w P Q R S) (hb : Below w.heap.size w w') (hg : g < w.heap.size) : FillR g len i w' P Q R S := fun k hk => by
  obtain ⟨⟨c0, c1, c2, c3⟩, f0, f1, f2, f3⟩ := h k hk
  exact ⟨⟨keepC hb c0, keepC hb c1, keepC hb c2, keepC hb c3⟩, (hb.frozen (p := ⟨g, k * 4, none⟩) hg).trans f0, (hb.frozen (p := ⟨g, k * 4 + 1, none⟩) hg).trans f1, (hb.frozen (p := ⟨g, k * 4 + 2, none⟩) hg).trans f2, (hb.frozen (p := ⟨g, k * 4 + 3, none⟩) hg).trans f3⟩

theorem szRectS_any (a : Option Addr) (len cap : Nat) (l : Int) (w : World) (h0 : 0 ≤ l) (h1 : l ≤ 1048576) (hlen : len ≤ maxLen) : Calls Tryd.prog 70 #[.slice a len cap, .int .i64 l] w fun e w' => e = .returned (.int .i64 (if (len : Int) ≤ l then l - len else -1)) ∧ w = w' := by
  unfold maxLen at hlen
  by_cases h : (len : Int) ≤ l
  · rw [if_pos h]
    have h2 : ¬ (l - (len : Int) < 0) := by omega
    go_enter Tryd.func70, Tryd.ntmps70
    go_wp2
    go_ret
    exact ⟨rfl, rfl⟩
  · rw [if_neg h]
    have h2 : l - (len : Int) < 0 := by omega
    go_enter Tryd.func70, Tryd.ntmps70
    go_wp2
    go_ret
    exact ⟨rfl, rfl⟩

/-- What copying a slice of rectangles gives: a new row with the same rectangles. -/
def CopiedR (w : World) (len : Nat) (P Q R S : Nat → Int) (e : Ending) (w' : World) : Prop :=
  ∃ g : Nat, w.heap.size ≤ g ∧ g < w'.heap.size ∧ e = .returned (.slice (some ⟨g, 0, none⟩) len len) ∧ Below w.heap.size w w' ∧ RectsIs w'.heap.size w' (some ⟨g, 0, none⟩) len P Q R S

theorem made4 (n j : Nat) (h : j < n) : (madeCells (Value.agg #[.int .i64 0, .int .i64 0, .int .i64 0, .int .i64 0]).cells n).toList[j]? = some (.int .i64 0) := by
  have e : (Value.agg #[.int .i64 0, .int .i64 0, .int .i64 0, .int .i64 0]).cells = #[.int .i64 0, .int .i64 0, .int .i64 0, .int .i64 0] := rfl
  rw [e]
  simp only [madeCells, Array.getElem?_toList, Array.getElem?_map]
  rw [Array.getElem?_eq_getElem (by simpa using h)]
  simp only [Option.map_some, Array.getElem_range]
  rcases (show j % 4 = 0 ∨ j % 4 = 1 ∨ j % 4 = 2 ∨ j % 4 = 3 by omega) with q | q | q | q <;> simp [q]
theorem Tryd.infoR : (Tryd.prog.info? 142).map (fun i => (i.zero, i.size, i.bytes)) = some (some (.agg #[.int .i64 0, .int .i64 0, .int .i64 0, .int .i64 0]), 4, 32) := by kernel_rfl

set_option maxHeartbeats 4000000 in
theorem toRectS_any (a : Option Addr) (len cap : Nat) (P Q R S : Nat → Int) (w : World) (hlen : len ≤ 1048576) (hP : RectsIs w.heap.size w a len P Q R S) :
    Calls Tryd.prog 72 #[.slice a len cap] w (CopiedR w len P Q R S) := by
  obtain ⟨i0, hi, hz0, hz1, hz2⟩ := info_parts Tryd.infoR
  go_enter Tryd.func72, Tryd.ntmps72
  go_wp2_with (at_make; refine wpList_make_full _ rfl _ _ 105 rfl w.heap.size 142 i0 (.agg #[.int .i64 0, .int .i64 0, .int .i64 0, .int .i64 0]) 4 Tryd.underlying105 hi hz0 hz1 .i64 .i64 len len len rfl rfl rfl rfl (by rw [hz2]; omega) (by unfold maxLen; omega) (Nat.le_refl _) ?_; intro w1 own1 grow1)
  have hB1 : Below w.heap.size w w1 := (Below.refl _ _).grown grow1 (Nat.le_refl _) (fun k hk => by cases hk)
  have hlt1 := (own1.lt w.heap.size rfl).2
  have hF1 : FillR w.heap.size len 0 w1 P Q R S := fun k hk => by
    refine ⟨⟨?_, ?_, ?_, ?_⟩, own1.frozenAt _, own1.frozenAt _, own1.frozenAt _, own1.frozenAt _⟩
    all_goals
      rw [own1.cellAt _ (by omega)]
      exact made4 _ _ (by omega)
  clear own1 grow1 hi hz0 hz1 hz2
  go_loopw [4] (fun s4 wr => ∃ i : Nat, i ≤ len ∧ s4 = .int .i64 i ∧ w.heap.size < wr.heap.size ∧ Below w.heap.size w wr ∧ FillR w.heap.size len i wr P Q R S) (fun s4 _ => len - (intOf s4).toNat)
  case atStart => exact ⟨0, by omega, rfl, hlt1, hB1, hF1⟩
  case round =>
    obtain ⟨i, hi, rfl, hsz, hW, hF⟩ := hrel
    clear hF1 hB1 hlt1
    by_cases hlt : i < len
    · obtain ⟨b, off, rfl, hb, c0, c1, c2, c3⟩ := hP.below hW i hlt
      have q1 : (i : Int) < (len : Int) := by omega
      have q0 : (0 : Int) ≤ (i : Int) := by omega
      go_wp2_with fail
      refine (toRect_any _ _ _ _ _).mono ?_
      rintro e w2 ⟨rfl, bw2⟩
      have hF2 := hF.below bw2 hsz
      have hs2 := bw2.size
      obtain ⟨⟨d0, d1, d2, d3⟩, f0, f1, f2, f3⟩ := hF2 i hlt
      have HF := hF2.step hlt
      go_wp2_with fail
      go_roundw
      case rel => exact ⟨i + 1, by omega, by go_num, by simp; omega, by (repeat (first | (with_reducible exact Below.refl _ _) | (with_reducible refine Ext.drewN ?_ _) | (with_reducible refine Below.drew ?_) | (with_reducible refine Ext.alloc ?_ _) | (with_reducible refine Ext.setCell ?_ (by simp; try omega) _) | (with_reducible refine Ext.trans ?_ (by assumption)) | (with_reducible assumption) | exact Below.refl _ _)), HF⟩
      case measure => simp [intOf]; omega
    · have q1 : ¬ (i : Int) < (len : Int) := by omega
      obtain rfl : i = len := by omega
      go_wp2_with fail
      go_ret
      exact ⟨w.heap.size, Nat.le_refl _, hsz, rfl, hW, fun k hk => by
        obtain ⟨⟨c0, c1, c2, c3⟩, f0, f1, f2, f3⟩ := hF k hk
        rw [if_pos hk] at c0 c1 c2 c3
        exact ⟨w.heap.size, 0, rfl, hsz, by simpa using c0, by simpa using c1, by simpa using c2, by simpa using c3⟩⟩

/-- Two slices of the same rectangles are equal. -/
theorem eqRectS_any (a b : Option Addr) (len c1 c2 : Nat) (P Q R S : Nat → Int) (w : World) (hlen : len ≤ 1048576) (hP : RectsIs w.heap.size w a len P Q R S) (hQ : RectsIs w.heap.size w b len P Q R S) :
    Calls Tryd.prog 76 #[.slice a len c1, .slice b len c2] w fun e w' => e = .returned (.bool true) ∧ Below w.heap.size w w' := by
  go_enter Tryd.func76, Tryd.ntmps76
  go_wp2_with fail
  go_loopw [5] (fun s5 wr => ∃ i : Nat, i ≤ len ∧ s5 = .int .i64 i ∧ Below w.heap.size w wr) (fun s5 _ => len - (intOf s5).toNat)
  case atStart => exact ⟨0, by omega, rfl, Below.refl _ _⟩
  case round =>
    obtain ⟨i, hi, rfl, hW⟩ := hrel
    by_cases hlt : i < len
    · obtain ⟨b1, o1, rfl, hb1, x0, x1, x2, x3⟩ := hP.below hW i hlt
      obtain ⟨b2, o2, rfl, hb2, y0, y1, y2, y3⟩ := hQ.below hW i hlt
      have q1 : (i : Int) < (len : Int) := by omega
      have q0 : (0 : Int) ≤ (i : Int) := by omega
      have he : eqRB (P i) (Q i) (R i) (S i) (P i) (Q i) (R i) (S i) = true := by simp [eqRB]
      go_wp2_with fail
      go_region_held3 (fun w' => w'.cell? ⟨b1, o1 + i * 4, none⟩ = some (.int .i64 (P i)) ∧ w'.cell? ⟨b1, o1 + i * 4 + 1, none⟩ = some (.int .i64 (Q i)) ∧ w'.cell? ⟨b1, o1 + i * 4 + 2, none⟩ = some (.int .i64 (R i)) ∧ w'.cell? ⟨b1, o1 + i * 4 + 3, none⟩ = some (.int .i64 (S i)) ∧ w'.cell? ⟨b2, o2 + i * 4, none⟩ = some (.int .i64 (P i)) ∧ w'.cell? ⟨b2, o2 + i * 4 + 1, none⟩ = some (.int .i64 (Q i)) ∧ w'.cell? ⟨b2, o2 + i * 4 + 2, none⟩ = some (.int .i64 (R i)) ∧ w'.cell? ⟨b2, o2 + i * 4 + 3, none⟩ = some (.int .i64 (S i)))
        (first | ((try dsimp only); go_split_ands; (repeat' (with_reducible refine And.intro ?_ ?_)) <;> first | (with_reducible assumption) | (with_reducible exact keepC (by assumption) (by assumption)) | (go_keep; done)))
        (first | (go_at_call 109; refine (eqRect_any _ _ _ _ _ _ _ _ _).mono ?_; rintro e w2 ⟨rfl, bw2⟩))
      go_wp2_with fail
      go_roundw
      case rel => exact ⟨i + 1, by omega, by go_num, by (repeat (first | (with_reducible exact Below.refl _ _) | (with_reducible refine Ext.drewN ?_ _) | (with_reducible refine Below.drew ?_) | (with_reducible refine Ext.alloc ?_ _) | (with_reducible refine Ext.setCell ?_ (by simp; try omega) _) | (with_reducible refine Ext.trans ?_ (by assumption)) | (with_reducible assumption) | exact Below.refl _ _))⟩
      case measure => simp [intOf]; omega
    · have q1 : ¬ (i : Int) < (len : Int) := by omega
      go_wp2_with fail
      go_ret
      exact ⟨rfl, hW⟩
end Go.Proofs.YtciodcknobccdaaDoor
