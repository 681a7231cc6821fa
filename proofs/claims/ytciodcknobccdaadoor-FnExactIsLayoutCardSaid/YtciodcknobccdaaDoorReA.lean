/- Rectangles: validity by the model, slices of rectangles, the box of a rectangle and a slice of more. Conditions: those of each theorem. -/
import Derived.Test.YtciodcknobccdaaDoorBase
import Derived.Lib.Hide
namespace Go.Proofs.YtciodcknobccdaaDoor
open Go.RowKit
set_option linter.unusedVariables false
set_option linter.unusedSimpArgs false
attribute [local go_sem ↓] Go.wp_at_zero Go.wp_at_succ

/-- The rectangle is valid. -/
def rvB (a b c d : Int) : Bool := decide (-40 ≤ a ∧ a < c ∧ c ≤ 40 ∧ -40 ≤ b ∧ b < d ∧ d ≤ 40)
theorem rvB_t {a b c d : Int} (h : rvB a b c d = true) : -40 ≤ a ∧ a < c ∧ c ≤ 40 ∧ -40 ≤ b ∧ b < d ∧ d ≤ 40 := of_decide_eq_true h
theorem rvB_mk {a b c d : Int} (h : -40 ≤ a ∧ a < c ∧ c ≤ 40 ∧ -40 ≤ b ∧ b < d ∧ d ≤ 40) : rvB a b c d = true := decide_eq_true h
theorem rvB_f {a b c d : Int} (h : ¬ (-40 ≤ a ∧ a < c ∧ c ≤ 40 ∧ -40 ≤ b ∧ b < d ∧ d ≤ 40)) : rvB a b c d = false := decide_eq_false h

/-- The variable chip holds the chip's rectangle. -/
def ChipW (w : World) : Prop := w.cell? ⟨1, 0, none⟩ = some (.int .i64 (-40)) ∧ w.cell? ⟨1, 1, none⟩ = some (.int .i64 (-40)) ∧ w.cell? ⟨1, 2, none⟩ = some (.int .i64 40) ∧ w.cell? ⟨1, 3, none⟩ = some (.int .i64 40)
theorem ChipW.ext {W W' : World} (h : ChipW W) (hb : Below W.heap.size W W') : ChipW W' := ⟨keepC hb h.1, keepC hb h.2.1, keepC hb h.2.2.1, keepC hb h.2.2.2⟩
theorem ChipW.size {W : World} (h : ChipW W) : 1 < W.heap.size := World.block_lt_of_cell? W ⟨1, 0, none⟩ h.1
theorem ChipW.ne {W : World} (h : ChipW W) : ¬ W.heap = #[] := fun e => by have := h.size; rw [e] at this; simp at this
theorem ChipW.below {W W' : World} (h : ChipW W) {n : Nat} (hb : Below n W W') (hn : 1 < n) : ChipW W' :=
  ⟨(hb.cell (p := ⟨1, 0, none⟩) hn).trans h.1, (hb.cell (p := ⟨1, 1, none⟩) hn).trans h.2.1, (hb.cell (p := ⟨1, 2, none⟩) hn).trans h.2.2.1, (hb.cell (p := ⟨1, 3, none⟩) hn).trans h.2.2.2⟩

set_option maxHeartbeats 4000000 in
theorem specValidRect_any (a b c d : Int) (w : World) : Calls Tryd.prog 127 #[.agg #[.int .i64 a, .int .i64 b, .int .i64 c, .int .i64 d]] w fun e w' => e = .returned (.bool (rvB a b c d)) ∧ Below w.heap.size w w' := by
  have key : (-40 ≤ a ∧ a < c ∧ c ≤ 40 ∧ -40 ≤ b ∧ b < d ∧ d ≤ 40) ∨ (¬ -40 ≤ a) ∨ (-40 ≤ a ∧ ¬ a < c) ∨ (-40 ≤ a ∧ a < c ∧ ¬ c ≤ 40) ∨ (-40 ≤ a ∧ a < c ∧ c ≤ 40 ∧ ¬ -40 ≤ b) ∨ (-40 ≤ a ∧ a < c ∧ c ≤ 40 ∧ -40 ≤ b ∧ ¬ b < d) ∨ (-40 ≤ a ∧ a < c ∧ c ≤ 40 ∧ -40 ≤ b ∧ b < d ∧ ¬ d ≤ 40) := by omega
  rcases key with ⟨h1, h2, h3, h4, h5, h6⟩ | h1 | ⟨h1, h2⟩ | ⟨h1, h2, h3⟩ | ⟨h1, h2, h3, h4⟩ | ⟨h1, h2, h3, h4, h5⟩ | ⟨h1, h2, h3, h4, h5, h6⟩
  all_goals
    go_enter Tryd.func127, Tryd.ntmps127
    go_wp2_with fail
    go_ret
    exact ⟨ret_bool (by unfold rvB; simp; omega), by (repeat (first | (with_reducible exact Below.refl _ _) | (with_reducible refine Ext.drewN ?_ _) | (with_reducible refine Below.drew ?_) | (with_reducible refine Ext.alloc ?_ _) | (with_reducible refine Ext.setCell ?_ (by simp; try omega) _) | (with_reducible refine Ext.trans ?_ (by assumption)) | (with_reducible assumption) | exact Below.refl _ _))⟩

theorem toRect_any (a b c d : Int) (w : World) : Calls Tryd.prog 106 #[.agg #[.int .i64 a, .int .i64 b, .int .i64 c, .int .i64 d]] w fun e w' => e = .returned (.agg #[.int .i64 a, .int .i64 b, .int .i64 c, .int .i64 d]) ∧ Below w.heap.size w w' := by
  go_enter Tryd.func106, Tryd.ntmps106
  go_wp2_with fail
  exact bodyPost_ret (v := .agg #[.int .i64 a, .int .i64 b, .int .i64 c, .int .i64 d]) (by simp [results, Tryd.results106, go_sem]) rfl ⟨rfl, by go_grown⟩

/-- The slice's elements are the rectangles (P i, Q i, R i, S i), below block B. -/
def RectsIs (B : Nat) (w : World) (a : Option Addr) (len : Nat) (P Q R S : Nat → Int) : Prop :=
  ∀ i, i < len → ∃ b off : Nat, a = some ⟨b, off, none⟩ ∧ b < B ∧ w.cell? ⟨b, off + i * 4, none⟩ = some (.int .i64 (P i)) ∧ w.cell? ⟨b, off + i * 4 + 1, none⟩ = some (.int .i64 (Q i)) ∧ w.cell? ⟨b, off + i * 4 + 2, none⟩ = some (.int .i64 (R i)) ∧ w.cell? ⟨b, off + i * 4 + 3, none⟩ = some (.int .i64 (S i))
theorem RectsIs.below {B : Nat} {w w' : World} {a : Option Addr} {len : Nat} {P Q R S : Nat → Int} (h : RectsIs B w a len P Q R S) (hb : Below B w w') : RectsIs B w' a len P Q R S := fun i hi => by
  obtain ⟨b, off, h1, h2, h3, h4, h5, h6⟩ := h i hi
  exact ⟨b, off, h1, h2, (hb.cell (p := ⟨b, off + i * 4, none⟩) h2).trans h3, (hb.cell (p := ⟨b, off + i * 4 + 1, none⟩) h2).trans h4, (hb.cell (p := ⟨b, off + i * 4 + 2, none⟩) h2).trans h5, (hb.cell (p := ⟨b, off + i * 4 + 3, none⟩) h2).trans h6⟩
theorem RectsIs.ext {w w' : World} {a : Option Addr} {len : Nat} {P Q R S : Nat → Int} (h : RectsIs w.heap.size w a len P Q R S) (hb : Below w.heap.size w w') : RectsIs w'.heap.size w' a len P Q R S := fun i hi => by
  obtain ⟨b, off, h1, h2, h3⟩ := h.below hb i hi
  exact ⟨b, off, h1, Nat.lt_of_lt_of_le h2 hb.size, h3⟩

/-- A rectangle that may be written lies at the start of block g. -/
def RectAt (w : World) (g : Nat) (a b c d : Int) : Prop :=
  w.cell? ⟨g, 0, none⟩ = some (.int .i64 a) ∧ w.cell? ⟨g, 1, none⟩ = some (.int .i64 b) ∧ w.cell? ⟨g, 2, none⟩ = some (.int .i64 c) ∧ w.cell? ⟨g, 3, none⟩ = some (.int .i64 d) ∧ w.frozen? ⟨g, 0, none⟩ = false ∧ w.frozen? ⟨g, 1, none⟩ = false ∧ w.frozen? ⟨g, 2, none⟩ = false ∧ w.frozen? ⟨g, 3, none⟩ = false

theorem RectAt.lt {w : World} {g : Nat} {a b c d : Int} (h : RectAt w g a b c d) : g < w.heap.size := World.block_lt_of_cell? w ⟨g, 0, none⟩ h.1
theorem RectAt.other {w : World} {g : Nat} {a b c d : Int} (h : RectAt w g a b c d) {p : Addr} (hp : p.block ≠ g) (u : Value) : RectAt (w.setCell p u) g a b c d := by
  obtain ⟨c0, c1, c2, c3, f0, f1, f2, f3⟩ := h
  exact ⟨keepS c0 hp u, keepS c1 hp u, keepS c2 hp u, keepS c3 hp u, by simpa [go_sem] using f0, by simpa [go_sem] using f1, by simpa [go_sem] using f2, by simpa [go_sem] using f3⟩
theorem RectAt.below {w w' : World} {g : Nat} {a b c d : Int} (h : RectAt w g a b c d) (hb : Below w.heap.size w w') : RectAt w' g a b c d := by
  have hl := h.lt
  obtain ⟨c0, c1, c2, c3, f0, f1, f2, f3⟩ := h
  exact ⟨keepC hb c0, keepC hb c1, keepC hb c2, keepC hb c3, (hb.frozen (p := ⟨g, 0, none⟩) hl).trans f0, (hb.frozen (p := ⟨g, 1, none⟩) hl).trans f1, (hb.frozen (p := ⟨g, 2, none⟩) hl).trans f2, (hb.frozen (p := ⟨g, 3, none⟩) hl).trans f3⟩
theorem RectAt.alloc {w : World} {g : Nat} {a b c d : Int} (h : RectAt w g a b c d) (O : Obj) : RectAt (w.alloc O) g a b c d := h.below ((Below.refl _ _).alloc (Nat.le_refl _) O)
theorem RectAt.set {w : World} {g : Nat} {a b c d : Int} (h : RectAt w g a b c d) (p q r s : Int) : RectAt ((((w.setCell ⟨g, 0, none⟩ (.int .i64 p)).setCell ⟨g, 1, none⟩ (.int .i64 q)).setCell ⟨g, 2, none⟩ (.int .i64 r)).setCell ⟨g, 3, none⟩ (.int .i64 s)) g p q r s := by
  obtain ⟨c0, c1, c2, c3, f0, f1, f2, f3⟩ := h
  have o : ∀ (w : World) (i j : Nat) (u v : Value), i ≠ j → w.cell? ⟨g, i, none⟩ = some v → (w.setCell ⟨g, j, none⟩ u).cell? ⟨g, i, none⟩ = some v := fun w i j u v hij hc => by
    rw [World.cell?_setCell_other _ _ _ _ (by simp <;> omega)]; exact hc
  refine ⟨?_, ?_, ?_, ?_, by simpa [go_sem] using f0, by simpa [go_sem] using f1, by simpa [go_sem] using f2, by simpa [go_sem] using f3⟩
  · exact o _ _ _ _ _ (by omega) (o _ _ _ _ _ (by omega) (o _ _ _ _ _ (by omega) (World.cell?_setCell_same _ _ _ c0)))
  · exact o _ _ _ _ _ (by omega) (o _ _ _ _ _ (by omega) (World.cell?_setCell_same _ _ _ (o _ _ _ _ _ (by omega) c1)))
  · exact o _ _ _ _ _ (by omega) (World.cell?_setCell_same _ _ _ (o _ _ _ _ _ (by omega) (o _ _ _ _ _ (by omega) c2)))
  · exact World.cell?_setCell_same _ _ _ (o _ _ _ _ _ (by omega) (o _ _ _ _ _ (by omega) (o _ _ _ _ _ (by omega) c3)))

/-- The least of s and the first n values of f. -/
def mn (f : Nat → Int) (s : Int) : Nat → Int
  | 0 => s
  | n + 1 => if f n < mn f s n then f n else mn f s n
def mx (f : Nat → Int) (s : Int) : Nat → Int
  | 0 => s
  | n + 1 => if mx f s n < f n then f n else mx f s n

set_option maxHeartbeats 4000000 in
theorem boxOf_any (a b c d : Int) (m : Option Addr) (len cap : Nat) (P Q R S : Nat → Int) (w : World) (hlen : len ≤ 1048576) (hR : RectsIs w.heap.size w m len P Q R S) :
    Calls Tryd.prog 189 #[.agg #[.int .i64 a, .int .i64 b, .int .i64 c, .int .i64 d], .slice m len cap] w fun e w' => e = .returned (.agg #[.int .i64 (mn P a len), .int .i64 (mn Q b len), .int .i64 (mx R c len), .int .i64 (mx S d len)]) ∧ Below w.heap.size w w' := by
  go_enter Tryd.func189, Tryd.ntmps189
  go_wp2_with fail
  go_loopw [11] (fun s5 wr => ∃ i : Nat, i ≤ len ∧ s5 = .int .i64 i ∧ w.heap.size + 1 + 1 < wr.heap.size ∧ Below w.heap.size w wr ∧ RectAt wr (w.heap.size + 1) 0 0 0 0 ∧ RectAt wr (w.heap.size + 1 + 1) (mn P a i) (mn Q b i) (mx R c i) (mx S d i)) (fun s5 _ => len - (intOf s5).toNat)
  case atStart => exact ⟨0, by omega, rfl, by simp, by (repeat (first | (with_reducible exact Below.refl _ _) | (with_reducible refine Ext.drewN ?_ _) | (with_reducible refine Below.drew ?_) | (with_reducible refine Ext.alloc ?_ _) | (with_reducible refine Ext.setCell ?_ (by simp; try omega) _) | (with_reducible refine Ext.trans ?_ (by assumption)) | (with_reducible assumption) | exact Below.refl _ _)), by unfold RectAt; simp [go_sem], by unfold RectAt; simp [go_sem, mn, mx]⟩
  case round =>
    obtain ⟨i, hi, rfl, hsz, hW, hZ, hX⟩ := hrel
    have HZ := Lib.hid hZ
    have HX := Lib.hid hX
    obtain ⟨z0, z1, z2, z3, y0, y1, y2, y3⟩ := hZ
    obtain ⟨e0, e1, e2, e3, f0, f1, f2, f3⟩ := hX
    by_cases hlt : i < len
    · obtain ⟨b1, o1, rfl, hb1, c0, c1, c2, c3⟩ := hR.below hW i hlt
      have q1 : (i : Int) < (len : Int) := by omega
      have q0 : (0 : Int) ≤ (i : Int) := by omega
      go_wp2_with fail
      go_roundw
      case rel => exact ⟨i + 1, by omega, by go_num, by simp; omega, by (repeat (first | (with_reducible exact Below.refl _ _) | (with_reducible refine Ext.drewN ?_ _) | (with_reducible refine Below.drew ?_) | (with_reducible refine Ext.alloc ?_ _) | (with_reducible refine Ext.setCell ?_ (by simp; try omega) _) | (with_reducible refine Ext.trans ?_ (by assumption)) | (with_reducible assumption) | exact Below.refl _ _)), (((((HZ.out.other (by simp) _).other (by simp) _).other (by simp) _).other (by simp) _).alloc _), (HX.out.set _ _ _ _).alloc _⟩
      case measure => simp [intOf]; omega
    · have q1 : ¬ (i : Int) < (len : Int) := by omega
      obtain rfl : i = len := by omega
      go_wp2_with fail
      refine bodyPost_ret (v := .agg #[.int .i64 (mn P a i), .int .i64 (mn Q b i), .int .i64 (mx R c i), .int .i64 (mx S d i)]) (by simp [*, results, Tryd.results189, go_sem]) rfl ⟨rfl, ?_⟩
      (repeat (first | (with_reducible exact Below.refl _ _) | (with_reducible refine Ext.drewN ?_ _) | (with_reducible refine Below.drew ?_) | (with_reducible refine Ext.alloc ?_ _) | (with_reducible refine Ext.setCell ?_ (by simp; try omega) _) | (with_reducible refine Ext.trans ?_ (by assumption)) | (with_reducible assumption) | exact Below.refl _ _))
end Go.Proofs.YtciodcknobccdaaDoor
