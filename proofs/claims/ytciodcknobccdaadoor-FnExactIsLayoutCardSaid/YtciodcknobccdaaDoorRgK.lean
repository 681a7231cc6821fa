/- Marks over rows of rectangles. Conditions: the rows are in memory. -/
import Derived.Test.YtciodcknobccdaaDoorReI
import Derived.Lib.Hide
namespace Go.Proofs.YtciodcknobccdaaDoor
open Go.RowKit
set_option linter.unusedVariables false
set_option linter.unusedSimpArgs false
attribute [local go_sem ↓] Go.wp_at_zero Go.wp_at_succ

/-- A row of rectangles at block g, which may be written. -/
def RowR (w : World) (g len : Nat) (P Q R S : Nat → Int) : Prop :=
  ∀ k, k < len → (w.cell? ⟨g, k * 4, none⟩ = some (.int .i64 (P k)) ∧ w.cell? ⟨g, k * 4 + 1, none⟩ = some (.int .i64 (Q k)) ∧ w.cell? ⟨g, k * 4 + 2, none⟩ = some (.int .i64 (R k)) ∧ w.cell? ⟨g, k * 4 + 3, none⟩ = some (.int .i64 (S k))) ∧ w.frozen? ⟨g, k * 4, none⟩ = false ∧ w.frozen? ⟨g, k * 4 + 1, none⟩ = false ∧ w.frozen? ⟨g, k * 4 + 2, none⟩ = false ∧ w.frozen? ⟨g, k * 4 + 3, none⟩ = false
theorem RowR.below {g len : Nat} {w w' : World} {P Q R S : Nat → Int} {B : Nat} (h : RowR w g len P Q R S) (hb : Below B w w') (hg : g < B) : RowR w' g len P Q R S := fun k hk => by
  obtain ⟨⟨c0, c1, c2, c3⟩, f0, f1, f2, f3⟩ := h k hk
  exact ⟨⟨(hb.cell (p := ⟨g, k * 4, none⟩) hg).trans c0, (hb.cell (p := ⟨g, k * 4 + 1, none⟩) hg).trans c1, (hb.cell (p := ⟨g, k * 4 + 2, none⟩) hg).trans c2, (hb.cell (p := ⟨g, k * 4 + 3, none⟩) hg).trans c3⟩, (hb.frozen (p := ⟨g, k * 4, none⟩) hg).trans f0, (hb.frozen (p := ⟨g, k * 4 + 1, none⟩) hg).trans f1, (hb.frozen (p := ⟨g, k * 4 + 2, none⟩) hg).trans f2, (hb.frozen (p := ⟨g, k * 4 + 3, none⟩) hg).trans f3⟩
theorem RowR.rects {g len : Nat} {w : World} {P Q R S : Nat → Int} (h : RowR w g len P Q R S) : RectsIs w.heap.size w (some ⟨g, 0, none⟩) len P Q R S := fun k hk => by
  obtain ⟨⟨c0, c1, c2, c3⟩, _⟩ := h k hk
  exact ⟨g, 0, rfl, World.block_lt_of_cell? w ⟨g, k * 4, none⟩ c0, by simpa using c0, by simpa using c1, by simpa using c2, by simpa using c3⟩
def updI (f : Nat → Int) (i : Nat) (v : Int) (k : Nat) : Int := if k = i then v else f k
theorem RowR.step {g len i : Nat} {w : World} {P Q R S : Nat → Int} (h : RowR w g len P Q R S) (p q r s : Int) : RowR ((((w.setCell ⟨g, i * 4, none⟩ (.int .i64 p)).setCell ⟨g, i * 4 + 1, none⟩ (.int .i64 q)).setCell ⟨g, i * 4 + 2, none⟩ (.int .i64 r)).setCell ⟨g, i * 4 + 3, none⟩ (.int .i64 s)) g len (updI P i p) (updI Q i q) (updI R i r) (updI S i s) := by
  intro k hk
  obtain ⟨⟨c0, c1, c2, c3⟩, f0, f1, f2, f3⟩ := h k hk
  refine ⟨?_, by simpa using f0, by simpa using f1, by simpa using f2, by simpa using f3⟩
  unfold updI
  by_cases e : k = i
  · subst e
    simp only [if_true]
    refine ⟨?_, ?_, ?_, ?_⟩
    · exact other_cell (by omega) (other_cell (by omega) (other_cell (by omega) (World.cell?_setCell_same _ _ _ c0)))
    · exact other_cell (by omega) (other_cell (by omega) (World.cell?_setCell_same _ _ _ (other_cell (by omega) c1)))
    · exact other_cell (by omega) (World.cell?_setCell_same _ _ _ (other_cell (by omega) (other_cell (by omega) c2)))
    · exact World.cell?_setCell_same _ _ _ (other_cell (by omega) (other_cell (by omega) (other_cell (by omega) c3)))
  · simp only [if_neg e]
    refine ⟨?_, ?_, ?_, ?_⟩
    · exact other_cell (by omega) (other_cell (by omega) (other_cell (by omega) (other_cell (by omega) c0)))
    · exact other_cell (by omega) (other_cell (by omega) (other_cell (by omega) (other_cell (by omega) c1)))
    · exact other_cell (by omega) (other_cell (by omega) (other_cell (by omega) (other_cell (by omega) c2)))
    · exact other_cell (by omega) (other_cell (by omega) (other_cell (by omega) (other_cell (by omega) c3)))

/-- Nothing but block g, and what is new, has changed. -/
def Wr (g : Nat) (a b : World) : Prop := a.grownBy b (some g)
theorem Wr.refl (g : Nat) (w : World) : Wr g w w := World.grownBy.refl w (some g)
theorem Wr.set {g i : Nat} {a w : World} (h : Wr g a w) (v : Value) : Wr g a (w.setCell ⟨g, i, none⟩ v) :=
  ⟨h.os, h.tape, h.output, by simpa using h.size, fun k hk hne => by rw [Below.heap_setCell _ _ _ _ (by intro e; simp at e; exact hne (by rw [e]))]; exact h.block k hk hne⟩
theorem Wr.cell {g b o : Nat} {w w' : World} {v : Value} (h : Wr g w w') (hc : w.cell? ⟨b, o, none⟩ = some v) (hne : b ≠ g) : w'.cell? ⟨b, o, none⟩ = some v :=
  (World.cell?_of_block (h.block b (World.block_lt_of_cell? w ⟨b, o, none⟩ hc) (by intro e; exact hne (Option.some.inj e)))).trans hc
theorem Wr.below {B g : Nat} {a w w' : World} (h : Below B a w) (k : Wr g w w') (hB : B ≤ w.heap.size) (hg : B ≤ g) : Below B a w' :=
  h.grown k hB (fun j hj => by cases hj; exact hg)
theorem Wr.rows {g b len : Nat} {w w' : World} {P Q R S : Nat → Int} (h : Wr g w w') (hr : RowR w b len P Q R S) (hne : b ≠ g) (hb : b < w.heap.size) : RowR w' b len P Q R S := fun k hk => by
  have fz : ∀ o, w'.frozen? ⟨b, o, none⟩ = w.frozen? ⟨b, o, none⟩ := fun o => World.frozen?_of_block (h.block b hb (by intro e; exact hne (Option.some.inj e)))
  obtain ⟨⟨c0, c1, c2, c3⟩, f0, f1, f2, f3⟩ := hr k hk
  exact ⟨⟨h.cell c0 hne, h.cell c1 hne, h.cell c2 hne, h.cell c3 hne⟩, (fz _).trans f0, (fz _).trans f1, (fz _).trans f2, (fz _).trans f3⟩

/-- The marks of rectangle i, from k on. -/
def mkV (k : Int) (j : Nat) (i : Nat) : Int := k + 4 * (i : Int) + (j : Int)
def mkI (f : Nat → Int) (k : Int) (j n : Nat) (i : Nat) : Int := if i < n then mkV k j i else f i
theorem mkI_step (f : Nat → Int) (k : Int) (j n : Nat) : updI (mkI f k j n) n (mkV k j n) = mkI f k j (n + 1) := by
  funext i
  unfold updI mkI
  by_cases h : i = n
  · subst h; rw [if_pos rfl, if_pos (by omega)]
  · rw [if_neg h]
    by_cases h2 : i < n
    · rw [if_pos h2, if_pos (by omega)]
    · rw [if_neg h2, if_neg (by omega)]
theorem mkI_zero (f : Nat → Int) (k : Int) (j : Nat) : mkI f k j 0 = f := by funext i; unfold mkI; rw [if_neg (by omega)]
theorem RowR.congr {w : World} {g len : Nat} {P Q R S P' Q' R' S' : Nat → Int} (h : RowR w g len P Q R S) (e : ∀ k, k < len → P k = P' k ∧ Q k = Q' k ∧ R k = R' k ∧ S k = S' k) : RowR w g len P' Q' R' S' := fun k hk => by
  obtain ⟨e0, e1, e2, e3⟩ := e k hk
  rw [← e0, ← e1, ← e2, ← e3]; exact h k hk
theorem mkI_full (f : Nat → Int) (k : Int) (j n i : Nat) (h : i < n) : mkI f k j n i = mkV k j i := by unfold mkI; rw [if_pos h]

end Go.Proofs.YtciodcknobccdaaDoor

namespace Go.Proofs.YtciodcknobccdaaDoor
open Go.RowKit
set_option linter.unusedVariables false
set_option linter.unusedSimpArgs false
attribute [local go_sem ↓] Go.wp_at_zero Go.wp_at_succ

/-- A copy in a row of its own. -/
def CopyRow (w : World) (len : Nat) (P Q R S : Nat → Int) (e : Ending) (w' : World) : Prop :=
  ∃ g : Nat, w.heap.size ≤ g ∧ g < w'.heap.size ∧ e = .returned (.slice (some ⟨g, 0, none⟩) len len) ∧ Below w.heap.size w w' ∧ RowR w' g len P Q R S

set_option maxHeartbeats 4000000 in
theorem toRectS_row (a : Option Addr) (len cap : Nat) (P Q R S : Nat → Int) (w : World) (hlen : len ≤ 1048576) (hP : RectsIs w.heap.size w a len P Q R S) :
    Calls Tryd.prog 72 #[.slice a len cap] w (CopyRow w len P Q R S) := by
  obtain ⟨i0, hi, hz0, hz1, hz2⟩ := info_parts Tryd.infoR
  go_enter Tryd.func72, Tryd.ntmps72
  go_wp2_with (at_make; refine wpList_make_full _ rfl _ _ 105 rfl w.heap.size 142 i0 (.agg #[.int .i64 0, .int .i64 0, .int .i64 0, .int .i64 0]) 4 Tryd.underlying105 hi hz0 hz1 .i64 .i64 len len len rfl rfl rfl rfl (by rw [hz2]; omega) (by unfold maxLen; omega) (Nat.le_refl _) ?_; intro w1 own1 grow1)
  have hB1 : Below w.heap.size w w1 := (Below.refl _ _).grown grow1 (Nat.le_refl _) (fun k hk => by cases hk)
  have hlt1 := (own1.lt w.heap.size rfl).2
  have hF1 : FillR w.heap.size len 0 w1 P Q R S := fun k hk => by
    refine ⟨⟨?_, ?_, ?_, ?_⟩, own1.frozenAt _, own1.frozenAt _, own1.frozenAt _, own1.frozenAt _⟩
    all_goals
      rw [own1.cellAt _ (by omega)]
      exact made4 _ _ (by omega)
  clear own1 grow1 hi hz0 hz1 hz2
  go_loopw [4] (fun s4 wr => ∃ i : Nat, i ≤ len ∧ s4 = .int .i64 i ∧ w.heap.size < wr.heap.size ∧ Below w.heap.size w wr ∧ FillR w.heap.size len i wr P Q R S) (fun s4 _ => len - (intOf s4).toNat)
  case atStart => exact ⟨0, by omega, rfl, hlt1, hB1, hF1⟩
  case round =>
    obtain ⟨i, hi, rfl, hsz, hW, hF⟩ := hrel
    clear hF1 hB1 hlt1
    by_cases hlt : i < len
    · obtain ⟨b, off, rfl, hb, c0, c1, c2, c3⟩ := hP.below hW i hlt
      have q1 : (i : Int) < (len : Int) := by omega
      have q0 : (0 : Int) ≤ (i : Int) := by omega
      go_wp2_with fail
      refine (toRect_any _ _ _ _ _).mono ?_
      rintro e w2 ⟨rfl, bw2⟩
      have hF2 := hF.below bw2 hsz
      have hs2 := bw2.size
      obtain ⟨⟨d0, d1, d2, d3⟩, f0, f1, f2, f3⟩ := hF2 i hlt
      have HF := hF2.step hlt
      go_wp2_with fail
      go_roundw
      case rel => exact ⟨i + 1, by omega, by go_num, by simp; omega, by (repeat (first | (with_reducible exact Below.refl _ _) | (with_reducible refine Ext.drewN ?_ _) | (with_reducible refine Below.drew ?_) | (with_reducible refine Ext.alloc ?_ _) | (with_reducible refine Ext.setCell ?_ (by simp; try omega) _) | (with_reducible refine Ext.trans ?_ (by assumption)) | (with_reducible assumption) | exact Below.refl _ _)), HF⟩
      case measure => simp [intOf]; omega
    · have q1 : ¬ (i : Int) < (len : Int) := by omega
      obtain rfl : i = len := by omega
      have HF := Lib.hid hF
      clear hF
      go_wp2_with fail
      go_ret
      exact ⟨w.heap.size, Nat.le_refl _, hsz, rfl, hW, fun k hk => by
        obtain ⟨⟨c0, c1, c2, c3⟩, f0, f1, f2, f3⟩ := HF.out k hk
        rw [if_pos hk] at c0 c1 c2 c3
        exact ⟨⟨c0, c1, c2, c3⟩, f0, f1, f2, f3⟩⟩
end Go.Proofs.YtciodcknobccdaaDoor
