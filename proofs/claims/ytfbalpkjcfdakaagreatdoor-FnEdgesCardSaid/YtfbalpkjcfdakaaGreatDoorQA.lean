/- Small facts that every walk of this repository's uses: what a call keeps of the memory that was there. No condition. -/
import Derived.Test.YtfbalpkjcfdakaaGreatDoorRows
import Derived.WalkKit
import Derived.Below
import Derived.Outline
import Derived.Deep.QuietTactic
import Derived.BigQuiet
import Derived.LoopTactic
import Derived.Handy
import Derived.Deep.RegionHeld3
import Derived.Deep.DeepCutAuto
import Derived.Deep.DrawnRows
import Derived.Lib.Hide
import Derived.Laws.StructEq
import Derived.Laws.OwnMore
namespace Go.Proofs.YtfbalpkjcfdakaaGreatDoor
open Go.RowKit
set_option linter.unusedVariables false
set_option linter.unusedSimpArgs false

@[simp] theorem le_s2 (n : Nat) : n ≤ n + 1 + 1 := by omega
@[simp] theorem le_s3 (n : Nat) : n ≤ n + 1 + 1 + 1 := by omega
@[simp] theorem le_s4 (n : Nat) : n ≤ n + 1 + 1 + 1 + 1 := by omega
@[simp] theorem le_s5 (n : Nat) : n ≤ n + 1 + 1 + 1 + 1 + 1 := by omega
@[simp] theorem le_s6 (n : Nat) : n ≤ n + 1 + 1 + 1 + 1 + 1 + 1 := by omega
@[simp] theorem le_s7 (n : Nat) : n ≤ n + 1 + 1 + 1 + 1 + 1 + 1 + 1 := by omega
@[simp] theorem le_s8 (n : Nat) : n ≤ n + 1 + 1 + 1 + 1 + 1 + 1 + 1 + 1 := by omega
@[simp] theorem le_s9 (n : Nat) : n ≤ n + 1 + 1 + 1 + 1 + 1 + 1 + 1 + 1 + 1 := by omega
@[simp] theorem le_s10 (n : Nat) : n ≤ n + 1 + 1 + 1 + 1 + 1 + 1 + 1 + 1 + 1 + 1 := by omega
@[simp] theorem le_s11 (n : Nat) : n ≤ n + 1 + 1 + 1 + 1 + 1 + 1 + 1 + 1 + 1 + 1 + 1 := by omega
@[simp] theorem le_s12 (n : Nat) : n ≤ n + 1 + 1 + 1 + 1 + 1 + 1 + 1 + 1 + 1 + 1 + 1 + 1 := by omega

def inB (n lo hi : Int) : Bool := decide (lo ≤ n ∧ n ≤ hi)
theorem inB_t {n lo hi : Int} (h : inB n lo hi = true) : lo ≤ n ∧ n ≤ hi := of_decide_eq_true h
theorem inB_mk {n lo hi : Int} (h : lo ≤ n) (k : n ≤ hi) : inB n lo hi = true := decide_eq_true ⟨h, k⟩
theorem inB_f {n lo hi : Int} (h : ¬ (lo ≤ n ∧ n ≤ hi)) : inB n lo hi = false := decide_eq_false h
theorem bcell {W w1 : World} (hb : Below W.heap.size W w1) : W.heap.size ≤ w1.heap.size ∧ (∀ b, b < W.heap.size → b < w1.heap.size) ∧ (∀ b o, b < W.heap.size → w1.cell? ⟨b, o, none⟩ = W.cell? ⟨b, o, none⟩) ∧ (∀ b o, b < W.heap.size → w1.frozen? ⟨b, o, none⟩ = W.frozen? ⟨b, o, none⟩) :=
  ⟨hb.size, fun b h => Nat.lt_of_lt_of_le h hb.size, fun b o h => hb.cell (p := ⟨b, o, none⟩) h, fun b o h => hb.frozen (p := ⟨b, o, none⟩) h⟩
theorem Ext.trans {a b c : World} (h : Below a.heap.size a b) (k : Below b.heap.size b c) : Below a.heap.size a c := Below.trans h (k.mono h.size)
theorem Ext.alloc {a b : World} (h : Below a.heap.size a b) (o : Obj) : Below a.heap.size a (b.alloc o) := Below.alloc h h.size o
theorem Ext.setCell {a b : World} (h : Below a.heap.size a b) {p : Addr} (hp : a.heap.size ≤ p.block) (u : Value) : Below a.heap.size a (b.setCell p u) := Below.setCell h hp u
theorem Ext.same {a b : World} (h : a = b) : Below a.heap.size a b := h ▸ Below.refl _ _
theorem ret_bool {a b : Bool} (h : a = b) : Ending.returned (.bool a) = .returned (.bool b) := by rw [h]
theorem ret_int {k : IntKind} {a b : Int} (h : a = b) : Ending.returned (.int k a) = .returned (.int k b) := by rw [h]
theorem ret_point {a b c d : Int} (h : a = c) (k : b = d) : Ending.returned (.agg #[.int .i64 a, .int .i64 b]) = .returned (.agg #[.int .i64 c, .int .i64 d]) := by rw [h, k]
theorem Ext.drewN {a b : World} (h : Below a.heap.size a b) (n : Nat) : Below a.heap.size a (b.drewN n) := ⟨h.os, h.tape, h.output, h.size, h.block⟩
theorem keepC {w1 w2 : World} {b o : Nat} {v : Value} (hb : Below w1.heap.size w1 w2) (h : w1.cell? ⟨b, o, none⟩ = some v) : w2.cell? ⟨b, o, none⟩ = some v :=
  (hb.cell (p := ⟨b, o, none⟩) (World.block_lt_of_cell? w1 ⟨b, o, none⟩ h)).trans h
theorem keepA {w1 : World} {b o : Nat} {v : Value} (h : w1.cell? ⟨b, o, none⟩ = some v) (O : Obj) : (w1.alloc O).cell? ⟨b, o, none⟩ = some v := by
  rw [World.cell?_alloc_lt _ _ _ (World.block_lt_of_cell? w1 ⟨b, o, none⟩ h)]; exact h
theorem keepR {w1 : World} {b o : Nat} {v : Value} {O : Obj} (h : (w1.alloc O).cell? ⟨b, o, none⟩ = some v) (hb : b < w1.heap.size) (O' : Obj) : (w1.alloc O').cell? ⟨b, o, none⟩ = some v := by
  rw [World.cell?_alloc_lt _ _ _ hb] at h ⊢; exact h
theorem keepS {w1 : World} {b o : Nat} {v : Value} (h : w1.cell? ⟨b, o, none⟩ = some v) {p : Addr} (hp : p.block ≠ b) (u : Value) : (w1.setCell p u).cell? ⟨b, o, none⟩ = some v := by
  rw [World.cell?_of_block (Below.heap_setCell w1 p u b (Ne.symm hp))]; exact h
end Go.Proofs.YtfbalpkjcfdakaaGreatDoor

namespace Go.Proofs.YtfbalpkjcfdakaaGreatDoor
open Go.RowKit
set_option linter.unusedVariables false
set_option linter.unusedSimpArgs false
attribute [local go_sem ↓] Go.wp_at_zero Go.wp_at_succ

/-- The rectangle is valid. -/
def rvB (a b c d : Int) : Bool := decide (-40 ≤ a ∧ a < c ∧ c ≤ 40 ∧ -40 ≤ b ∧ b < d ∧ d ≤ 40)
theorem rvB_t {a b c d : Int} (h : rvB a b c d = true) : -40 ≤ a ∧ a < c ∧ c ≤ 40 ∧ -40 ≤ b ∧ b < d ∧ d ≤ 40 := of_decide_eq_true h
theorem rvB_mk {a b c d : Int} (h : -40 ≤ a ∧ a < c ∧ c ≤ 40 ∧ -40 ≤ b ∧ b < d ∧ d ≤ 40) : rvB a b c d = true := decide_eq_true h
theorem rvB_f {a b c d : Int} (h : ¬ (-40 ≤ a ∧ a < c ∧ c ≤ 40 ∧ -40 ≤ b ∧ b < d ∧ d ≤ 40)) : rvB a b c d = false := decide_eq_false h

/-- The variable chip holds the chip's rectangle. -/
def ChipW (w : World) : Prop := w.cell? ⟨2, 0, none⟩ = some (.int .i64 (-40)) ∧ w.cell? ⟨2, 1, none⟩ = some (.int .i64 (-40)) ∧ w.cell? ⟨2, 2, none⟩ = some (.int .i64 40) ∧ w.cell? ⟨2, 3, none⟩ = some (.int .i64 40)
theorem ChipW.ext {W W' : World} (h : ChipW W) (hb : Below W.heap.size W W') : ChipW W' := ⟨keepC hb h.1, keepC hb h.2.1, keepC hb h.2.2.1, keepC hb h.2.2.2⟩
theorem ChipW.size {W : World} (h : ChipW W) : 2 < W.heap.size := World.block_lt_of_cell? W ⟨2, 0, none⟩ h.1
theorem ChipW.ne {W : World} (h : ChipW W) : ¬ W.heap = #[] := fun e => by have := h.size; rw [e] at this; simp at this
theorem ChipW.below {W W' : World} (h : ChipW W) {n : Nat} (hb : Below n W W') (hn : 2 < n) : ChipW W' :=
  ⟨(hb.cell (p := ⟨2, 0, none⟩) hn).trans h.1, (hb.cell (p := ⟨2, 1, none⟩) hn).trans h.2.1, (hb.cell (p := ⟨2, 2, none⟩) hn).trans h.2.2.1, (hb.cell (p := ⟨2, 3, none⟩) hn).trans h.2.2.2⟩

set_option maxHeartbeats 4000000 in
theorem specValidRect_any (a b c d : Int) (w : World) : Calls Tryz.prog 134 #[.agg #[.int .i64 a, .int .i64 b, .int .i64 c, .int .i64 d]] w fun e w' => e = .returned (.bool (rvB a b c d)) ∧ Below w.heap.size w w' := by
  have key : (-40 ≤ a ∧ a < c ∧ c ≤ 40 ∧ -40 ≤ b ∧ b < d ∧ d ≤ 40) ∨ (¬ -40 ≤ a) ∨ (-40 ≤ a ∧ ¬ a < c) ∨ (-40 ≤ a ∧ a < c ∧ ¬ c ≤ 40) ∨ (-40 ≤ a ∧ a < c ∧ c ≤ 40 ∧ ¬ -40 ≤ b) ∨ (-40 ≤ a ∧ a < c ∧ c ≤ 40 ∧ -40 ≤ b ∧ ¬ b < d) ∨ (-40 ≤ a ∧ a < c ∧ c ≤ 40 ∧ -40 ≤ b ∧ b < d ∧ ¬ d ≤ 40) := by omega
  rcases key with ⟨h1, h2, h3, h4, h5, h6⟩ | h1 | ⟨h1, h2⟩ | ⟨h1, h2, h3⟩ | ⟨h1, h2, h3, h4⟩ | ⟨h1, h2, h3, h4, h5⟩ | ⟨h1, h2, h3, h4, h5, h6⟩
  all_goals
    go_enter Tryz.func134, Tryz.ntmps134
    go_wp2_with fail
    go_ret
    exact ⟨ret_bool (by unfold rvB; simp; omega), by (repeat (first | (with_reducible exact Below.refl _ _) | (with_reducible refine Ext.drewN ?_ _) | (with_reducible refine Below.drew ?_) | (with_reducible refine Ext.alloc ?_ _) | (with_reducible refine Ext.setCell ?_ (by simp; try omega) _) | (with_reducible refine Ext.trans ?_ (by assumption)) | (with_reducible assumption) | exact Below.refl _ _))⟩

theorem toRect_any (a b c d : Int) (w : World) : Calls Tryz.prog 47 #[.agg #[.int .i64 a, .int .i64 b, .int .i64 c, .int .i64 d]] w fun e w' => e = .returned (.agg #[.int .i64 a, .int .i64 b, .int .i64 c, .int .i64 d]) ∧ Below w.heap.size w w' := by
  go_enter Tryz.func47, Tryz.ntmps47
  go_wp2_with fail
  exact bodyPost_ret (v := .agg #[.int .i64 a, .int .i64 b, .int .i64 c, .int .i64 d]) (by simp [results, Tryz.results47, go_sem]) rfl ⟨rfl, by go_grown⟩

/-- The slice's elements are the rectangles (P i, Q i, R i, S i), below block B. -/
def RectsIs (B : Nat) (w : World) (a : Option Addr) (len : Nat) (P Q R S : Nat → Int) : Prop :=
  ∀ i, i < len → ∃ b off : Nat, a = some ⟨b, off, none⟩ ∧ b < B ∧ w.cell? ⟨b, off + i * 4, none⟩ = some (.int .i64 (P i)) ∧ w.cell? ⟨b, off + i * 4 + 1, none⟩ = some (.int .i64 (Q i)) ∧ w.cell? ⟨b, off + i * 4 + 2, none⟩ = some (.int .i64 (R i)) ∧ w.cell? ⟨b, off + i * 4 + 3, none⟩ = some (.int .i64 (S i))
theorem RectsIs.below {B : Nat} {w w' : World} {a : Option Addr} {len : Nat} {P Q R S : Nat → Int} (h : RectsIs B w a len P Q R S) (hb : Below B w w') : RectsIs B w' a len P Q R S := fun i hi => by
  obtain ⟨b, off, h1, h2, h3, h4, h5, h6⟩ := h i hi
  exact ⟨b, off, h1, h2, (hb.cell (p := ⟨b, off + i * 4, none⟩) h2).trans h3, (hb.cell (p := ⟨b, off + i * 4 + 1, none⟩) h2).trans h4, (hb.cell (p := ⟨b, off + i * 4 + 2, none⟩) h2).trans h5, (hb.cell (p := ⟨b, off + i * 4 + 3, none⟩) h2).trans h6⟩
theorem RectsIs.ext {w w' : World} {a : Option Addr} {len : Nat} {P Q R S : Nat → Int} (h : RectsIs w.heap.size w a len P Q R S) (hb : Below w.heap.size w w') : RectsIs w'.heap.size w' a len P Q R S := fun i hi => by
  obtain ⟨b, off, h1, h2, h3⟩ := h.below hb i hi
  exact ⟨b, off, h1, Nat.lt_of_lt_of_le h2 hb.size, h3⟩

/-- A rectangle that may be written lies at the start of block g. -/
def RectAt (w : World) (g : Nat) (a b c d : Int) : Prop :=
  w.cell? ⟨g, 0, none⟩ = some (.int .i64 a) ∧ w.cell? ⟨g, 1, none⟩ = some (.int .i64 b) ∧ w.cell? ⟨g, 2, none⟩ = some (.int .i64 c) ∧ w.cell? ⟨g, 3, none⟩ = some (.int .i64 d) ∧ w.frozen? ⟨g, 0, none⟩ = false ∧ w.frozen? ⟨g, 1, none⟩ = false ∧ w.frozen? ⟨g, 2, none⟩ = false ∧ w.frozen? ⟨g, 3, none⟩ = false

theorem RectAt.lt {w : World} {g : Nat} {a b c d : Int} (h : RectAt w g a b c d) : g < w.heap.size := World.block_lt_of_cell? w ⟨g, 0, none⟩ h.1
theorem RectAt.other {w : World} {g : Nat} {a b c d : Int} (h : RectAt w g a b c d) {p : Addr} (hp : p.block ≠ g) (u : Value) : RectAt (w.setCell p u) g a b c d := by
  obtain ⟨c0, c1, c2, c3, f0, f1, f2, f3⟩ := h
  exact ⟨keepS c0 hp u, keepS c1 hp u, keepS c2 hp u, keepS c3 hp u, by simpa [go_sem] using f0, by simpa [go_sem] using f1, by simpa [go_sem] using f2, by simpa [go_sem] using f3⟩
theorem RectAt.below {w w' : World} {g : Nat} {a b c d : Int} (h : RectAt w g a b c d) (hb : Below w.heap.size w w') : RectAt w' g a b c d := by
  have hl := h.lt
  obtain ⟨c0, c1, c2, c3, f0, f1, f2, f3⟩ := h
  exact ⟨keepC hb c0, keepC hb c1, keepC hb c2, keepC hb c3, (hb.frozen (p := ⟨g, 0, none⟩) hl).trans f0, (hb.frozen (p := ⟨g, 1, none⟩) hl).trans f1, (hb.frozen (p := ⟨g, 2, none⟩) hl).trans f2, (hb.frozen (p := ⟨g, 3, none⟩) hl).trans f3⟩
theorem RectAt.alloc {w : World} {g : Nat} {a b c d : Int} (h : RectAt w g a b c d) (O : Obj) : RectAt (w.alloc O) g a b c d := h.below ((Below.refl _ _).alloc (Nat.le_refl _) O)
theorem RectAt.set {w : World} {g : Nat} {a b c d : Int} (h : RectAt w g a b c d) (p q r s : Int) : RectAt ((((w.setCell ⟨g, 0, none⟩ (.int .i64 p)).setCell ⟨g, 1, none⟩ (.int .i64 q)).setCell ⟨g, 2, none⟩ (.int .i64 r)).setCell ⟨g, 3, none⟩ (.int .i64 s)) g p q r s := by
  obtain ⟨c0, c1, c2, c3, f0, f1, f2, f3⟩ := h
  have o : ∀ (w : World) (i j : Nat) (u v : Value), i ≠ j → w.cell? ⟨g, i, none⟩ = some v → (w.setCell ⟨g, j, none⟩ u).cell? ⟨g, i, none⟩ = some v := fun w i j u v hij hc => by
    rw [World.cell?_setCell_other _ _ _ _ (by simp <;> omega)]; exact hc
  refine ⟨?_, ?_, ?_, ?_, by simpa [go_sem] using f0, by simpa [go_sem] using f1, by simpa [go_sem] using f2, by simpa [go_sem] using f3⟩
  · exact o _ _ _ _ _ (by omega) (o _ _ _ _ _ (by omega) (o _ _ _ _ _ (by omega) (World.cell?_setCell_same _ _ _ c0)))
  · exact o _ _ _ _ _ (by omega) (o _ _ _ _ _ (by omega) (World.cell?_setCell_same _ _ _ (o _ _ _ _ _ (by omega) c1)))
  · exact o _ _ _ _ _ (by omega) (World.cell?_setCell_same _ _ _ (o _ _ _ _ _ (by omega) (o _ _ _ _ _ (by omega) c2)))
  · exact World.cell?_setCell_same _ _ _ (o _ _ _ _ _ (by omega) (o _ _ _ _ _ (by omega) (o _ _ _ _ _ (by omega) c3)))

/-- The least of s and the first n values of f. -/
def mn (f : Nat → Int) (s : Int) : Nat → Int
  | 0 => s
  | n + 1 => if f n < mn f s n then f n else mn f s n
def mx (f : Nat → Int) (s : Int) : Nat → Int
  | 0 => s
  | n + 1 => if mx f s n < f n then f n else mx f s n

set_option maxHeartbeats 4000000 in
theorem boxOf_any (a b c d : Int) (m : Option Addr) (len cap : Nat) (P Q R S : Nat → Int) (w : World) (hlen : len ≤ 1048576) (hR : RectsIs w.heap.size w m len P Q R S) :
    Calls Tryz.prog 198 #[.agg #[.int .i64 a, .int .i64 b, .int .i64 c, .int .i64 d], .slice m len cap] w fun e w' => e = .returned (.agg #[.int .i64 (mn P a len), .int .i64 (mn Q b len), .int .i64 (mx R c len), .int .i64 (mx S d len)]) ∧ Below w.heap.size w w' := by
  go_enter Tryz.func198, Tryz.ntmps198
  go_wp2_with fail
  go_loopw [11] (fun s5 wr => ∃ i : Nat, i ≤ len ∧ s5 = .int .i64 i ∧ w.heap.size + 1 + 1 < wr.heap.size ∧ Below w.heap.size w wr ∧ RectAt wr (w.heap.size + 1) 0 0 0 0 ∧ RectAt wr (w.heap.size + 1 + 1) (mn P a i) (mn Q b i) (mx R c i) (mx S d i)) (fun s5 _ => len - (intOf s5).toNat)
  case atStart => exact ⟨0, by omega, rfl, by simp, by (repeat (first | (with_reducible exact Below.refl _ _) | (with_reducible refine Ext.drewN ?_ _) | (with_reducible refine Below.drew ?_) | (with_reducible refine Ext.alloc ?_ _) | (with_reducible refine Ext.setCell ?_ (by simp; try omega) _) | (with_reducible refine Ext.trans ?_ (by assumption)) | (with_reducible assumption) | exact Below.refl _ _)), by unfold RectAt; simp [go_sem], by unfold RectAt; simp [go_sem, mn, mx]⟩
  case round =>
    obtain ⟨i, hi, rfl, hsz, hW, hZ, hX⟩ := hrel
    have HZ := Lib.hid hZ
    have HX := Lib.hid hX
    obtain ⟨z0, z1, z2, z3, y0, y1, y2, y3⟩ := hZ
    obtain ⟨e0, e1, e2, e3, f0, f1, f2, f3⟩ := hX
    by_cases hlt : i < len
    · obtain ⟨b1, o1, rfl, hb1, c0, c1, c2, c3⟩ := hR.below hW i hlt
      have q1 : (i : Int) < (len : Int) := by omega
      have q0 : (0 : Int) ≤ (i : Int) := by omega
      go_wp2_with fail
      go_roundw
      case rel => exact ⟨i + 1, by omega, by go_num, by simp; omega, by (repeat (first | (with_reducible exact Below.refl _ _) | (with_reducible refine Ext.drewN ?_ _) | (with_reducible refine Below.drew ?_) | (with_reducible refine Ext.alloc ?_ _) | (with_reducible refine Ext.setCell ?_ (by simp; try omega) _) | (with_reducible refine Ext.trans ?_ (by assumption)) | (with_reducible assumption) | exact Below.refl _ _)), (((((HZ.out.other (by simp) _).other (by simp) _).other (by simp) _).other (by simp) _).alloc _), (HX.out.set _ _ _ _).alloc _⟩
      case measure => simp [intOf]; omega
    · have q1 : ¬ (i : Int) < (len : Int) := by omega
      obtain rfl : i = len := by omega
      go_wp2_with fail
      refine bodyPost_ret (v := .agg #[.int .i64 (mn P a i), .int .i64 (mn Q b i), .int .i64 (mx R c i), .int .i64 (mx S d i)]) (by simp [*, results, Tryz.results198, go_sem]) rfl ⟨rfl, ?_⟩
      (repeat (first | (with_reducible exact Below.refl _ _) | (with_reducible refine Ext.drewN ?_ _) | (with_reducible refine Below.drew ?_) | (with_reducible refine Ext.alloc ?_ _) | (with_reducible refine Ext.setCell ?_ (by simp; try omega) _) | (with_reducible refine Ext.trans ?_ (by assumption)) | (with_reducible assumption) | exact Below.refl _ _))
end Go.Proofs.YtfbalpkjcfdakaaGreatDoor

namespace Go.Proofs.YtfbalpkjcfdakaaGreatDoor
open Go.RowKit
set_option linter.unusedVariables false
set_option linter.unusedSimpArgs false
attribute [local go_sem ↓] Go.wp_at_zero Go.wp_at_succ

def eqRB (a b c d p q r s : Int) : Bool := a == p && (b == q && (c == r && d == s))
theorem eqRc (a b c d p q r s : Int) (w : World) : (Op.equalIn 10000 65 (.agg #[.int .i64 a, .int .i64 b, .int .i64 c, .int .i64 d]) (.agg #[.int .i64 p, .int .i64 q, .int .i64 r, .int .i64 s])).run Tryz.prog w = .ok (eqRB a b c d p q r s) w := by
  have hq : ∀ (a b : Int) (w : World), (Op.equalIn 9999 2 (.int .i64 a) (.int .i64 b)).run Tryz.prog w = .ok (a == b) w := fun a b w => run_equalIn_int w 9998 _ _ .i64 a b Tryz.underlying2
  have hs : Tryz.prog.stoodInHeld 65 = false := by kernel_rfl
  have hu : Tryz.prog.underlying 65 = some (.struct (Tryz.prog.fieldsOf 65)) := by kernel_rfl
  rw [run_equalIn_agg w 9999 _ _ _ hu hs]
  have hp : ∀ (x0 x1 x2 x3 : Int) (w : World), (part 2 #[.int .i64 x0, .int .i64 x1, .int .i64 x2, .int .i64 x3] 0).run Tryz.prog w = .ok (.int .i64 x0) w ∧ (part 2 #[.int .i64 x0, .int .i64 x1, .int .i64 x2, .int .i64 x3] 1).run Tryz.prog w = .ok (.int .i64 x1) w ∧ (part 2 #[.int .i64 x0, .int .i64 x1, .int .i64 x2, .int .i64 x3] 2).run Tryz.prog w = .ok (.int .i64 x2) w ∧ (part 2 #[.int .i64 x0, .int .i64 x1, .int .i64 x2, .int .i64 x3] 3).run Tryz.prog w = .ok (.int .i64 x3) w :=
    fun _ _ _ _ _ => ⟨by kernel_rfl, by kernel_rfl, by kernel_rfl, by kernel_rfl⟩
  have hf : (Tryz.prog.fieldsOf 65).toList.map (fun f => (f.name, f.type, f.offset)) = [("X0", 2, 0), ("Y0", 2, 1), ("X1", 2, 2), ("Y1", 2, 3)] := by kernel_rfl
  generalize (Tryz.prog.fieldsOf 65).toList = fs at hf
  rcases fs with _ | ⟨f0, _ | ⟨f1, _ | ⟨f2, _ | ⟨f3, _ | ⟨f4, r⟩⟩⟩⟩⟩
  · simp at hf
  · simp at hf
  · simp at hf
  · simp at hf
  · simp only [List.map_cons, List.map_nil, List.cons.injEq, Prod.mk.injEq, and_true] at hf
    obtain ⟨⟨n0, t0, o0⟩, ⟨n1, t1, o1⟩, ⟨n2, t2, o2⟩, n3, t3, o3⟩ := hf
    simp only [Op.eqFields, n0, t0, o0, n1, t1, o1, n2, t2, o2, n3, t3, o3, eqRB]
    simp only [ne_eq, String.reduceEq, not_false_eq_true, if_true, Sem.run_bind, (hp _ _ _ _ _).1, (hp _ _ _ _ _).2.1, (hp _ _ _ _ _).2.2.1, (hp _ _ _ _ _).2.2.2, Result.andThen_ok, hq, Sem.run_ite, Sem.run_pure]
    cases h0 : a == p <;> cases h1 : b == q <;> cases h2 : c == r <;> cases h3 : d == s <;> simp
  · simp at hf

/-- A slice of one or two rectangles at the start of a block. -/
theorem rects1 {w : World} {g : Nat} {a b c d : Int} (h0 : w.cell? ⟨g, 0, none⟩ = some (.int .i64 a)) (h1 : w.cell? ⟨g, 1, none⟩ = some (.int .i64 b)) (h2 : w.cell? ⟨g, 2, none⟩ = some (.int .i64 c)) (h3 : w.cell? ⟨g, 3, none⟩ = some (.int .i64 d)) :
    RectsIs w.heap.size w (some ⟨g, 0, none⟩) 1 (fun _ => a) (fun _ => b) (fun _ => c) (fun _ => d) := fun i hi => by
  obtain rfl : i = 0 := by omega
  exact ⟨g, 0, rfl, World.block_lt_of_cell? w ⟨g, 0, none⟩ h0, h0, h1, h2, h3⟩
def pick (a b : Int) (i : Nat) : Int := if i = 0 then a else b
theorem rects2 {w : World} {g : Nat} {a b c d p q r s : Int} (h0 : w.cell? ⟨g, 0, none⟩ = some (.int .i64 a)) (h1 : w.cell? ⟨g, 1, none⟩ = some (.int .i64 b)) (h2 : w.cell? ⟨g, 2, none⟩ = some (.int .i64 c)) (h3 : w.cell? ⟨g, 3, none⟩ = some (.int .i64 d)) (h4 : w.cell? ⟨g, 4, none⟩ = some (.int .i64 p)) (h5 : w.cell? ⟨g, 5, none⟩ = some (.int .i64 q)) (h6 : w.cell? ⟨g, 6, none⟩ = some (.int .i64 r)) (h7 : w.cell? ⟨g, 7, none⟩ = some (.int .i64 s)) :
    RectsIs w.heap.size w (some ⟨g, 0, none⟩) 2 (pick a p) (pick b q) (pick c r) (pick d s) := fun i hi => by
  have hg := World.block_lt_of_cell? w ⟨g, 0, none⟩ h0
  rcases (show i = 0 ∨ i = 1 by omega) with rfl | rfl
  · exact ⟨g, 0, rfl, hg, h0, h1, h2, h3⟩
  · exact ⟨g, 0, rfl, hg, h4, h5, h6, h7⟩

theorem mn1 (a p : Int) : mn (fun _ => a) p 1 = p ↔ p ≤ a := by
  show (if a < p then a else p) = p ↔ p ≤ a
  by_cases h : a < p
  · rw [if_pos h]; omega
  · rw [if_neg h]; omega
theorem mx1 (a p : Int) : mx (fun _ => a) p 1 = p ↔ a ≤ p := by
  show (if p < a then a else p) = p ↔ a ≤ p
  by_cases h : p < a
  · rw [if_pos h]; omega
  · rw [if_neg h]; omega
theorem box_eq (a b c d p q r s : Int) : eqRB (mn (fun _ => a) p 1) (mn (fun _ => b) q 1) (mx (fun _ => c) r 1) (mx (fun _ => d) s 1) p q r s = decide (p ≤ a ∧ q ≤ b ∧ c ≤ r ∧ d ≤ s) := by
  simp only [eqRB]
  rw [Bool.eq_iff_iff]
  simp only [Bool.and_eq_true, beq_iff_eq, decide_eq_true_eq, mn1, mx1]

set_option maxHeartbeats 4000000 in
theorem within_any (a b c d p q r s : Int) (w : World) : Calls Tryz.prog 195 #[.agg #[.int .i64 a, .int .i64 b, .int .i64 c, .int .i64 d], .agg #[.int .i64 p, .int .i64 q, .int .i64 r, .int .i64 s]] w fun e w' => e = .returned (.bool (decide (p ≤ a ∧ q ≤ b ∧ c ≤ r ∧ d ≤ s))) ∧ Below w.heap.size w w' := by
  have heq : ∀ w : World, (Op.equalIn 10000 65 (.agg #[.int .i64 (mn (fun _ => a) p 1), .int .i64 (mn (fun _ => b) q 1), .int .i64 (mx (fun _ => c) r 1), .int .i64 (mx (fun _ => d) s 1)]) (.agg #[.int .i64 p, .int .i64 q, .int .i64 r, .int .i64 s])).run Tryz.prog w = .ok (decide (p ≤ a ∧ q ≤ b ∧ c ≤ r ∧ d ≤ s)) w := fun w => by rw [eqRc, box_eq]
  go_enter Tryz.func195, Tryz.ntmps195
  go_wp2_with fail
  go_region_held3 (fun w' => w.heap.size + 1 < w'.heap.size ∧ Below w.heap.size w w' ∧ w'.cell? ⟨w.heap.size, 0, none⟩ = some (.int .i64 a) ∧ w'.cell? ⟨w.heap.size, 1, none⟩ = some (.int .i64 b) ∧ w'.cell? ⟨w.heap.size, 2, none⟩ = some (.int .i64 c) ∧ w'.cell? ⟨w.heap.size, 3, none⟩ = some (.int .i64 d) ∧ w'.cell? ⟨w.heap.size + 1, 0, none⟩ = some (.int .i64 p) ∧ w'.cell? ⟨w.heap.size + 1, 1, none⟩ = some (.int .i64 q) ∧ w'.cell? ⟨w.heap.size + 1, 2, none⟩ = some (.int .i64 r) ∧ w'.cell? ⟨w.heap.size + 1, 3, none⟩ = some (.int .i64 s))
    (first | ((try dsimp only); go_split_ands; (repeat' (with_reducible refine And.intro ?_ ?_)) <;> first | ((repeat (with_reducible refine keepS ?_ (by simp; try omega) _)); (first | (with_reducible assumption) | (with_reducible exact keepC (by assumption) (by assumption)) | (with_reducible exact keepA (by assumption) _) | (with_reducible exact keepR (by assumption) (by omega) _))) | ((try simp only [World.size_alloc, World.size_setCell, World.size_drew]); omega) | (refine Mats.below hM ?_ hM.size; (repeat (first | (with_reducible exact Below.refl _ _) | (with_reducible refine Ext.drewN ?_ _) | (with_reducible refine Below.drew ?_) | (with_reducible refine Ext.alloc ?_ _) | (with_reducible refine Ext.setCell ?_ (by simp; try omega) _) | (with_reducible refine Ext.trans ?_ (by assumption)) | (with_reducible assumption) | exact Below.refl _ _)); done) | ((repeat (first | (with_reducible exact Below.refl _ _) | (with_reducible refine Ext.drewN ?_ _) | (with_reducible refine Below.drew ?_) | (with_reducible refine Ext.alloc ?_ _) | (with_reducible refine Ext.setCell ?_ (by simp; try omega) _) | (with_reducible refine Ext.trans ?_ (by assumption)) | (with_reducible assumption) | exact Below.refl _ _)); done) | (go_keep; done)))
    (first | (go_at_call 198; refine (boxOf_any p q r s _ 1 _ (fun _ => a) (fun _ => b) (fun _ => c) (fun _ => d) _ (by omega) (rects1 (by simp [go_sem]) (by simp [go_sem]) (by simp [go_sem]) (by simp [go_sem]))).mono ?_; rintro e v1 ⟨rfl, bv1⟩; obtain ⟨sv1, zv1, cv1, fv1⟩ := bcell bv1; (try simp only [World.size_alloc, World.size_setCell, World.size_drew] at sv1)))
  all_goals
    go_wp2_with fail
    go_ret
    exact ⟨ret_bool (by simp), by (repeat (first | (with_reducible exact Below.refl _ _) | (with_reducible refine Ext.drewN ?_ _) | (with_reducible refine Below.drew ?_) | (with_reducible refine Ext.alloc ?_ _) | (with_reducible refine Ext.setCell ?_ (by simp; try omega) _) | (with_reducible refine Ext.trans ?_ (by assumption)) | (with_reducible assumption) | exact Below.refl _ _))⟩

set_option maxHeartbeats 4000000 in
theorem implValidRect_any (a b c d : Int) (w : World) (hC : ChipW w) : Calls Tryz.prog 184 #[.agg #[.int .i64 a, .int .i64 b, .int .i64 c, .int .i64 d]] w fun e w' => e = .returned (.bool (rvB a b c d)) ∧ Below w.heap.size w w' := by
  have nz := hC.ne
  have hz := hC.size
  obtain ⟨g0, g1, g2, g3⟩ := hC
  have key : (a < c ∧ b < d) ∨ (¬ a < c) ∨ (a < c ∧ ¬ b < d) := by omega
  rcases key with ⟨h1, h2⟩ | h1 | ⟨h1, h2⟩
  · go_enter Tryz.func184, Tryz.ntmps184
    go_wp2_with fail
    go_call (within_any a b c d (-40) (-40) 40 40) as e w1 ⟨rfl, bw1⟩
    obtain ⟨sw1, zw1, cw1, fw1⟩ := bcell bw1
    try simp only [World.size_alloc, World.size_setCell, World.size_drew] at sw1
    try have lw1_w_0 : w.heap.size < w1.heap.size := by omega
    try have lw1_w_1 : w.heap.size + 1 < w1.heap.size := by omega
    try have lw1_w_2 : w.heap.size + 1 + 1 < w1.heap.size := by omega
    try have lw1_w_3 : w.heap.size + 1 + 1 + 1 < w1.heap.size := by omega
    try have lw1_w_4 : w.heap.size + 1 + 1 + 1 + 1 < w1.heap.size := by omega
    try have lw1_w_5 : w.heap.size + 1 + 1 + 1 + 1 + 1 < w1.heap.size := by omega
    try have lw1_w_6 : w.heap.size + 1 + 1 + 1 + 1 + 1 + 1 < w1.heap.size := by omega
    go_wp2_with fail
    go_ret
    exact ⟨ret_bool (by unfold rvB; rw [Bool.eq_iff_iff]; simp only [Bool.and_eq_true, decide_eq_true_eq]; omega), by (repeat (first | (with_reducible exact Below.refl _ _) | (with_reducible refine Ext.drewN ?_ _) | (with_reducible refine Below.drew ?_) | (with_reducible refine Ext.alloc ?_ _) | (with_reducible refine Ext.setCell ?_ (by simp; try omega) _) | (with_reducible refine Ext.trans ?_ (by assumption)) | (with_reducible assumption) | exact Below.refl _ _))⟩
  all_goals
    go_enter Tryz.func184, Tryz.ntmps184
    go_wp2_with fail
    go_ret
    exact ⟨ret_bool (rvB_f (by omega)).symm, by (repeat (first | (with_reducible exact Below.refl _ _) | (with_reducible refine Ext.drewN ?_ _) | (with_reducible refine Below.drew ?_) | (with_reducible refine Ext.alloc ?_ _) | (with_reducible refine Ext.setCell ?_ (by simp; try omega) _) | (with_reducible refine Ext.trans ?_ (by assumption)) | (with_reducible assumption) | exact Below.refl _ _))⟩

def allV (P Q R S : Nat → Int) (n : Nat) : Bool := (List.range n).all fun i => rvB (P i) (Q i) (R i) (S i)
theorem allV_f {P Q R S : Nat → Int} {n i : Nat} (h : i < n) (hf : rvB (P i) (Q i) (R i) (S i) = false) : allV P Q R S n = false := by
  unfold allV
  rw [List.all_eq_false]
  exact ⟨i, List.mem_range.2 h, by simp [hf]⟩
theorem allV_t {P Q R S : Nat → Int} {n : Nat} (h : ∀ i, i < n → rvB (P i) (Q i) (R i) (S i) = true) : allV P Q R S n = true := by
  unfold allV
  rw [List.all_eq_true]
  exact fun i hi => h i (List.mem_range.1 hi)
theorem allV_at {P Q R S : Nat → Int} {n i : Nat} (h : allV P Q R S n = true) (hi : i < n) : rvB (P i) (Q i) (R i) (S i) = true := by
  unfold allV at h
  exact List.all_eq_true.1 h i (List.mem_range.2 hi)

set_option maxHeartbeats 4000000 in
theorem areValid_any (m : Option Addr) (len cap : Nat) (P Q R S : Nat → Int) (w : World) (hC : ChipW w) (hlen : len ≤ 1048576) (hR : RectsIs w.heap.size w m len P Q R S) :
    Calls Tryz.prog 180 #[.slice m len cap] w fun e w' => e = .returned (.bool (allV P Q R S len)) ∧ Below w.heap.size w w' := by
  go_enter Tryz.func180, Tryz.ntmps180
  go_wp2_with fail
  go_loopw [7] (fun s5 wr => ∃ i : Nat, i ≤ len ∧ s5 = .int .i64 i ∧ Below w.heap.size w wr ∧ ∀ k, k < i → rvB (P k) (Q k) (R k) (S k) = true) (fun s5 _ => len - (intOf s5).toNat)
  case atStart => exact ⟨0, by omega, rfl, by (repeat (first | (with_reducible exact Below.refl _ _) | (with_reducible refine Ext.drewN ?_ _) | (with_reducible refine Below.drew ?_) | (with_reducible refine Ext.alloc ?_ _) | (with_reducible refine Ext.setCell ?_ (by simp; try omega) _) | (with_reducible refine Ext.trans ?_ (by assumption)) | (with_reducible assumption) | exact Below.refl _ _)), fun k hk => absurd hk (by omega)⟩
  case round =>
    obtain ⟨i, hi, rfl, hW, hon⟩ := hrel
    have HON := Lib.hid hon
    clear hon
    by_cases hlt : i < len
    · obtain ⟨b1, o1, rfl, hb1, c0, c1, c2, c3⟩ := hR.below hW i hlt
      have q1 : (i : Int) < (len : Int) := by omega
      have q0 : (0 : Int) ≤ (i : Int) := by omega
      go_wp2_with fail
      refine (implValidRect_any _ _ _ _ _ (hC.ext (by (repeat (first | (with_reducible exact Below.refl _ _) | (with_reducible refine Ext.drewN ?_ _) | (with_reducible refine Below.drew ?_) | (with_reducible refine Ext.alloc ?_ _) | (with_reducible refine Ext.setCell ?_ (by simp; try omega) _) | (with_reducible refine Ext.trans ?_ (by assumption)) | (with_reducible assumption) | exact Below.refl _ _))))).mono ?_
      rintro e w2 ⟨rfl, bw2⟩
      cases ho : rvB (P i) (Q i) (R i) (S i) with
      | false =>
        go_wp2_with fail
        go_ret
        exact ⟨ret_bool (allV_f hlt ho).symm, by (repeat (first | (with_reducible exact Below.refl _ _) | (with_reducible refine Ext.drewN ?_ _) | (with_reducible refine Below.drew ?_) | (with_reducible refine Ext.alloc ?_ _) | (with_reducible refine Ext.setCell ?_ (by simp; try omega) _) | (with_reducible refine Ext.trans ?_ (by assumption)) | (with_reducible assumption) | exact Below.refl _ _))⟩
      | true =>
        go_wp2_with fail
        go_roundw
        case rel => exact ⟨i + 1, by omega, by go_num, by (repeat (first | (with_reducible exact Below.refl _ _) | (with_reducible refine Ext.drewN ?_ _) | (with_reducible refine Below.drew ?_) | (with_reducible refine Ext.alloc ?_ _) | (with_reducible refine Ext.setCell ?_ (by simp; try omega) _) | (with_reducible refine Ext.trans ?_ (by assumption)) | (with_reducible assumption) | exact Below.refl _ _)), fun k hk => by
          by_cases e : k = i
          · subst e; exact ho
          · exact HON.out k (by omega)⟩
        case measure => simp [intOf]; omega
    · have q1 : ¬ (i : Int) < (len : Int) := by omega
      obtain rfl : i = len := by omega
      go_wp2_with fail
      go_ret
      exact ⟨ret_bool (allV_t HON.out).symm, by (repeat (first | (with_reducible exact Below.refl _ _) | (with_reducible refine Ext.drewN ?_ _) | (with_reducible refine Below.drew ?_) | (with_reducible refine Ext.alloc ?_ _) | (with_reducible refine Ext.setCell ?_ (by simp; try omega) _) | (with_reducible refine Ext.trans ?_ (by assumption)) | (with_reducible assumption) | exact Below.refl _ _))⟩

theorem allV2 (a b c d p q r s : Int) : allV (pick a p) (pick b q) (pick c r) (pick d s) 2 = (rvB a b c d && rvB p q r s) := by
  unfold allV
  rw [show List.range 2 = [0, 1] from rfl]
  simp [pick]

def hi2 (a p : Int) : Int := if a < p then p else a
def lo2 (a p : Int) : Int := if p < a then p else a
theorem ret_rect {a b c d p q r s : Int} (h0 : a = p) (h1 : b = q) (h2 : c = r) (h3 : d = s) : Ending.returned (.agg #[.int .i64 a, .int .i64 b, .int .i64 c, .int .i64 d]) = .returned (.agg #[.int .i64 p, .int .i64 q, .int .i64 r, .int .i64 s]) := by rw [h0, h1, h2, h3]
end Go.Proofs.YtfbalpkjcfdakaaGreatDoor

namespace Go.Proofs.YtfbalpkjcfdakaaGreatDoor
open Go.RowKit
set_option linter.unusedVariables false
set_option linter.unusedSimpArgs false
attribute [local go_sem ↓] Go.wp_at_zero Go.wp_at_succ

def areaV (a b c d : Int) : Int := if rvB a b c d = true then (c - a) * (d - b) else -1
theorem area_bd {a b c d : Int} (h : rvB a b c d = true) : 0 ≤ (c - a) * (d - b) ∧ (c - a) * (d - b) ≤ 6400 := by
  obtain ⟨h1, h2, h3, h4, h5, h6⟩ := rvB_t h
  refine ⟨Int.mul_nonneg (by omega) (by omega), ?_⟩
  have := Int.mul_le_mul (a := c - a) (b := d - b) (c := 80) (d := 80) (by omega) (by omega) (by omega) (by omega)
  omega
theorem specRectArea_any (a b c d : Int) (w : World) : Calls Tryz.prog 93 #[.agg #[.int .i64 a, .int .i64 b, .int .i64 c, .int .i64 d]] w fun e w' => e = .returned (.int .i64 (areaV a b c d)) ∧ Below w.heap.size w w' := by
  unfold areaV
  cases h : rvB a b c d with
  | false =>
    rw [if_neg (by simp)]
    go_enter Tryz.func93, Tryz.ntmps93
    go_wp2_with fail
    go_call (specValidRect_any) as e w1 ⟨rfl, bw1⟩
    obtain ⟨sw1, zw1, cw1, fw1⟩ := bcell bw1
    try simp only [World.size_alloc, World.size_setCell, World.size_drew] at sw1
    try have lw1_w_0 : w.heap.size < w1.heap.size := by omega
    try have lw1_w_1 : w.heap.size + 1 < w1.heap.size := by omega
    try have lw1_w_2 : w.heap.size + 1 + 1 < w1.heap.size := by omega
    try have lw1_w_3 : w.heap.size + 1 + 1 + 1 < w1.heap.size := by omega
    try have lw1_w_4 : w.heap.size + 1 + 1 + 1 + 1 < w1.heap.size := by omega
    try have lw1_w_5 : w.heap.size + 1 + 1 + 1 + 1 + 1 < w1.heap.size := by omega
    try have lw1_w_6 : w.heap.size + 1 + 1 + 1 + 1 + 1 + 1 < w1.heap.size := by omega
    rw [h]
    go_wp2_with fail
    go_ret
    exact ⟨rfl, by (repeat (first | (with_reducible exact Below.refl _ _) | (with_reducible refine Ext.drewN ?_ _) | (with_reducible refine Below.drew ?_) | (with_reducible refine Ext.alloc ?_ _) | (with_reducible refine Ext.setCell ?_ (by simp; try omega) _) | (with_reducible refine Ext.trans ?_ (by assumption)) | (with_reducible assumption) | exact Below.refl _ _))⟩
  | true =>
    rw [if_pos rfl]
    obtain ⟨m1, m2⟩ := area_bd h
    obtain ⟨h1, h2, h3, h4, h5, h6⟩ := rvB_t h
    go_enter Tryz.func93, Tryz.ntmps93
    go_wp2_with fail
    go_call (specValidRect_any) as e w1 ⟨rfl, bw1⟩
    obtain ⟨sw1, zw1, cw1, fw1⟩ := bcell bw1
    try simp only [World.size_alloc, World.size_setCell, World.size_drew] at sw1
    try have lw1_w_0 : w.heap.size < w1.heap.size := by omega
    try have lw1_w_1 : w.heap.size + 1 < w1.heap.size := by omega
    try have lw1_w_2 : w.heap.size + 1 + 1 < w1.heap.size := by omega
    try have lw1_w_3 : w.heap.size + 1 + 1 + 1 < w1.heap.size := by omega
    try have lw1_w_4 : w.heap.size + 1 + 1 + 1 + 1 < w1.heap.size := by omega
    try have lw1_w_5 : w.heap.size + 1 + 1 + 1 + 1 + 1 < w1.heap.size := by omega
    try have lw1_w_6 : w.heap.size + 1 + 1 + 1 + 1 + 1 + 1 < w1.heap.size := by omega
    rw [h]
    go_wp2_with fail
    go_ret
    exact ⟨rfl, by (repeat (first | (with_reducible exact Below.refl _ _) | (with_reducible refine Ext.drewN ?_ _) | (with_reducible refine Below.drew ?_) | (with_reducible refine Ext.alloc ?_ _) | (with_reducible refine Ext.setCell ?_ (by simp; try omega) _) | (with_reducible refine Ext.trans ?_ (by assumption)) | (with_reducible assumption) | exact Below.refl _ _))⟩
def rcB (a b c d x y : Int) : Bool := rvB a b c d && decide (a ≤ x ∧ x < c ∧ b ≤ y ∧ y < d)
theorem inRangeR_any (n lo hi : Int) (w : World) : Calls Tryz.prog 84 #[.int .i64 n, .int .i64 lo, .int .i64 hi] w fun e w' => e = .returned (.bool (inB n lo hi)) ∧ w = w' := by
  by_cases h1 : lo ≤ n
  · by_cases h2 : n ≤ hi
    all_goals
      go_enter Tryz.func84, Tryz.ntmps84
      go_wp2
      go_ret
      exact ⟨ret_bool (by simp [inB, h1, h2]), rfl⟩
  · go_enter Tryz.func84, Tryz.ntmps84
    go_wp2
    go_ret
    exact ⟨ret_bool (inB_f (by omega)).symm, rfl⟩
end Go.Proofs.YtfbalpkjcfdakaaGreatDoor

namespace Go.Proofs.YtfbalpkjcfdakaaGreatDoor
open Go.RowKit
set_option linter.unusedVariables false
set_option linter.unusedSimpArgs false
attribute [local go_sem ↓] Go.wp_at_zero Go.wp_at_succ

theorem hi2_bd (a p : Int) : a ≤ hi2 a p ∧ p ≤ hi2 a p ∧ (hi2 a p = a ∨ hi2 a p = p) := by
  unfold hi2; split <;> omega
theorem lo2_bd (a p : Int) : lo2 a p ≤ a ∧ lo2 a p ≤ p ∧ (lo2 a p = a ∨ lo2 a p = p) := by
  unfold lo2; split <;> omega

def ovB (a b c d p q r s : Int) : Bool := rvB a b c d && (rvB p q r s && decide (hi2 a p < lo2 c r ∧ hi2 b q < lo2 d s))
theorem ov_meet {a b c d p q r s : Int} (h1 : rvB a b c d = true) (h2 : rvB p q r s = true) : rvB (hi2 a p) (hi2 b q) (lo2 c r) (lo2 d s) = decide (hi2 a p < lo2 c r ∧ hi2 b q < lo2 d s) := by
  have i := rvB_t h1
  have j := rvB_t h2
  have k1 := hi2_bd a p
  have k2 := hi2_bd b q
  have k3 := lo2_bd c r
  have k4 := lo2_bd d s
  unfold rvB
  rw [decide_eq_decide]
  omega

def ixV (a b c d p q r s : Int) : Value := .tuple #[.agg #[.int .i64 (if ovB a b c d p q r s = true then hi2 a p else 0), .int .i64 (if ovB a b c d p q r s = true then hi2 b q else 0), .int .i64 (if ovB a b c d p q r s = true then lo2 c r else 0), .int .i64 (if ovB a b c d p q r s = true then lo2 d s else 0)], .bool (ovB a b c d p q r s)]
theorem ixV_no {a b c d p q r s : Int} (h : ovB a b c d p q r s = false) : ixV a b c d p q r s = .tuple #[.agg #[.int .i64 0, .int .i64 0, .int .i64 0, .int .i64 0], .bool false] := by simp [ixV, h]
theorem ixV_yes {a b c d p q r s : Int} (h : ovB a b c d p q r s = true) : ixV a b c d p q r s = .tuple #[.agg #[.int .i64 (hi2 a p), .int .i64 (hi2 b q), .int .i64 (lo2 c r), .int .i64 (lo2 d s)], .bool true] := by simp [ixV, h]

theorem ret_ix {a b c d p q r s : Int} {v : Bool} (h0 : a = p) (h1 : b = q) (h2 : c = r) (h3 : d = s) : Ending.returned (.tuple #[.agg #[.int .i64 a, .int .i64 b, .int .i64 c, .int .i64 d], .bool v]) = .returned (.tuple #[.agg #[.int .i64 p, .int .i64 q, .int .i64 r, .int .i64 s], .bool v]) := by rw [h0, h1, h2, h3]
theorem areValid2_any (a b c d p q r s : Int) (v : Bool) (m : Option Addr) (cap : Nat) (w : World) (hC : ChipW w) (hv : (rvB a b c d && rvB p q r s) = v) (hR : RectsIs w.heap.size w m 2 (pick a p) (pick b q) (pick c r) (pick d s)) :
    Calls Tryz.prog 180 #[.slice m 2 cap] w fun e w' => e = .returned (.bool v) ∧ Below w.heap.size w w' := by
  have h := areValid_any m 2 cap (pick a p) (pick b q) (pick c r) (pick d s) w hC (by omega) hR
  rw [allV2, hv] at h
  exact h

end Go.Proofs.YtfbalpkjcfdakaaGreatDoor

namespace Go.Proofs.YtfbalpkjcfdakaaGreatDoor
open Go.RowKit
set_option linter.unusedVariables false
set_option linter.unusedSimpArgs false
attribute [local go_sem ↓] Go.wp_at_zero Go.wp_at_succ

theorem set4_all {w : World} {b : Nat} {u0 u1 u2 u3 v0 v1 v2 v3 : Value} (h0 : w.cell? ⟨b, 0, none⟩ = some u0) (h1 : w.cell? ⟨b, 1, none⟩ = some u1) (h2 : w.cell? ⟨b, 2, none⟩ = some u2) (h3 : w.cell? ⟨b, 3, none⟩ = some u3) :
    ((((w.setCell ⟨b, 0, none⟩ v0).setCell ⟨b, 1, none⟩ v1).setCell ⟨b, 2, none⟩ v2).setCell ⟨b, 3, none⟩ v3).cell? ⟨b, 0, none⟩ = some v0 ∧ ((((w.setCell ⟨b, 0, none⟩ v0).setCell ⟨b, 1, none⟩ v1).setCell ⟨b, 2, none⟩ v2).setCell ⟨b, 3, none⟩ v3).cell? ⟨b, 1, none⟩ = some v1 ∧ ((((w.setCell ⟨b, 0, none⟩ v0).setCell ⟨b, 1, none⟩ v1).setCell ⟨b, 2, none⟩ v2).setCell ⟨b, 3, none⟩ v3).cell? ⟨b, 2, none⟩ = some v2 ∧ ((((w.setCell ⟨b, 0, none⟩ v0).setCell ⟨b, 1, none⟩ v1).setCell ⟨b, 2, none⟩ v2).setCell ⟨b, 3, none⟩ v3).cell? ⟨b, 3, none⟩ = some v3 := by
  have o : ∀ (w : World) (i j : Nat) (u v : Value), i ≠ j → w.cell? ⟨b, i, none⟩ = some v → (w.setCell ⟨b, j, none⟩ u).cell? ⟨b, i, none⟩ = some v := fun w i j u v hij hc => by
    rw [World.cell?_setCell_other _ _ _ _ (by simp <;> omega)]; exact hc
  refine ⟨?_, ?_, ?_, ?_⟩
  · exact o _ _ _ _ _ (by omega) (o _ _ _ _ _ (by omega) (o _ _ _ _ _ (by omega) (World.cell?_setCell_same _ _ _ h0)))
  · exact o _ _ _ _ _ (by omega) (o _ _ _ _ _ (by omega) (World.cell?_setCell_same _ _ _ (o _ _ _ _ _ (by omega) h1)))
  · exact o _ _ _ _ _ (by omega) (World.cell?_setCell_same _ _ _ (o _ _ _ _ _ (by omega) (o _ _ _ _ _ (by omega) h2)))
  · exact World.cell?_setCell_same _ _ _ (o _ _ _ _ _ (by omega) (o _ _ _ _ _ (by omega) (o _ _ _ _ _ (by omega) h3)))
theorem set4_0 {w : World} {b : Nat} {u0 u1 u2 u3 v0 v1 v2 v3 : Value} (h0 : w.cell? ⟨b, 0, none⟩ = some u0) (h1 : w.cell? ⟨b, 1, none⟩ = some u1) (h2 : w.cell? ⟨b, 2, none⟩ = some u2) (h3 : w.cell? ⟨b, 3, none⟩ = some u3) :
    ((((w.setCell ⟨b, 0, none⟩ v0).setCell ⟨b, 1, none⟩ v1).setCell ⟨b, 2, none⟩ v2).setCell ⟨b, 3, none⟩ v3).cell? ⟨b, 0, none⟩ = some v0 := (set4_all h0 h1 h2 h3).1
theorem set4_1 {w : World} {b : Nat} {u0 u1 u2 u3 v0 v1 v2 v3 : Value} (h0 : w.cell? ⟨b, 0, none⟩ = some u0) (h1 : w.cell? ⟨b, 1, none⟩ = some u1) (h2 : w.cell? ⟨b, 2, none⟩ = some u2) (h3 : w.cell? ⟨b, 3, none⟩ = some u3) :
    ((((w.setCell ⟨b, 0, none⟩ v0).setCell ⟨b, 1, none⟩ v1).setCell ⟨b, 2, none⟩ v2).setCell ⟨b, 3, none⟩ v3).cell? ⟨b, 1, none⟩ = some v1 := (set4_all h0 h1 h2 h3).2.1
theorem set4_2 {w : World} {b : Nat} {u0 u1 u2 u3 v0 v1 v2 v3 : Value} (h0 : w.cell? ⟨b, 0, none⟩ = some u0) (h1 : w.cell? ⟨b, 1, none⟩ = some u1) (h2 : w.cell? ⟨b, 2, none⟩ = some u2) (h3 : w.cell? ⟨b, 3, none⟩ = some u3) :
    ((((w.setCell ⟨b, 0, none⟩ v0).setCell ⟨b, 1, none⟩ v1).setCell ⟨b, 2, none⟩ v2).setCell ⟨b, 3, none⟩ v3).cell? ⟨b, 2, none⟩ = some v2 := (set4_all h0 h1 h2 h3).2.2.1
theorem set4_3 {w : World} {b : Nat} {u0 u1 u2 u3 v0 v1 v2 v3 : Value} (h0 : w.cell? ⟨b, 0, none⟩ = some u0) (h1 : w.cell? ⟨b, 1, none⟩ = some u1) (h2 : w.cell? ⟨b, 2, none⟩ = some u2) (h3 : w.cell? ⟨b, 3, none⟩ = some u3) :
    ((((w.setCell ⟨b, 0, none⟩ v0).setCell ⟨b, 1, none⟩ v1).setCell ⟨b, 2, none⟩ v2).setCell ⟨b, 3, none⟩ v3).cell? ⟨b, 3, none⟩ = some v3 := (set4_all h0 h1 h2 h3).2.2.2

def ix0 (a b c d p q r s : Int) : Int := if ovB a b c d p q r s = true then hi2 a p else 0
def ix1 (a b c d p q r s : Int) : Int := if ovB a b c d p q r s = true then hi2 b q else 0
def ix2 (a b c d p q r s : Int) : Int := if ovB a b c d p q r s = true then lo2 c r else 0
def ix3 (a b c d p q r s : Int) : Int := if ovB a b c d p q r s = true then lo2 d s else 0
theorem eqRect_any (a b c d p q r s : Int) (w : World) : Calls Tryz.prog 52 #[.agg #[.int .i64 a, .int .i64 b, .int .i64 c, .int .i64 d], .agg #[.int .i64 p, .int .i64 q, .int .i64 r, .int .i64 s]] w fun e w' => e = .returned (.bool (eqRB a b c d p q r s)) ∧ Below w.heap.size w w' := by
  have key : (a = p ∧ b = q ∧ c = r ∧ d = s) ∨ (¬ a = p) ∨ (a = p ∧ ¬ b = q) ∨ (a = p ∧ b = q ∧ ¬ c = r) ∨ (a = p ∧ b = q ∧ c = r ∧ ¬ d = s) := by omega
  rcases key with ⟨h1, h2, h3, h4⟩ | h1 | ⟨h1, h2⟩ | ⟨h1, h2, h3⟩ | ⟨h1, h2, h3, h4⟩
  all_goals
    go_enter Tryz.func52, Tryz.ntmps52
    go_wp2_with fail
    go_ret
    exact ⟨ret_bool (by simp [eqRB, h1]; try omega), by (repeat (first | (with_reducible exact Below.refl _ _) | (with_reducible refine Ext.drewN ?_ _) | (with_reducible refine Below.drew ?_) | (with_reducible refine Ext.alloc ?_ _) | (with_reducible refine Ext.setCell ?_ (by simp; try omega) _) | (with_reducible refine Ext.trans ?_ (by assumption)) | (with_reducible assumption) | exact Below.refl _ _))⟩
end Go.Proofs.YtfbalpkjcfdakaaGreatDoor

namespace Go.Proofs.YtfbalpkjcfdakaaGreatDoor
open Go.RowKit
set_option linter.unusedVariables false
set_option linter.unusedSimpArgs false
attribute [local go_sem ↓] Go.wp_at_zero Go.wp_at_succ

/-- The first i rectangles of a new row at block g have been filled in; the others are zero. -/
def FillR (g len i : Nat) (w : World) (P Q R S : Nat → Int) : Prop :=
  ∀ k, k < len → (w.cell? ⟨g, k * 4, none⟩ = some (.int .i64 (if k < i then P k else 0)) ∧ w.cell? ⟨g, k * 4 + 1, none⟩ = some (.int .i64 (if k < i then Q k else 0)) ∧ w.cell? ⟨g, k * 4 + 2, none⟩ = some (.int .i64 (if k < i then R k else 0)) ∧ w.cell? ⟨g, k * 4 + 3, none⟩ = some (.int .i64 (if k < i then S k else 0))) ∧ w.frozen? ⟨g, k * 4, none⟩ = false ∧ w.frozen? ⟨g, k * 4 + 1, none⟩ = false ∧ w.frozen? ⟨g, k * 4 + 2, none⟩ = false ∧ w.frozen? ⟨g, k * 4 + 3, none⟩ = false
theorem other_cell {g : Nat} {w : World} {i j : Nat} {u v : Value} (hij : i ≠ j) (hc : w.cell? ⟨g, i, none⟩ = some v) : (w.setCell ⟨g, j, none⟩ u).cell? ⟨g, i, none⟩ = some v := by
  rw [World.cell?_setCell_other _ _ _ _ (by simp <;> omega)]; exact hc
theorem FillR.step {g len i : Nat} {w : World} {P Q R S : Nat → Int} (h : FillR g len i w P Q R S) (hi : i < len) : FillR g len (i + 1) ((((w.setCell ⟨g, i * 4, none⟩ (.int .i64 (P i))).setCell ⟨g, i * 4 + 1, none⟩ (.int .i64 (Q i))).setCell ⟨g, i * 4 + 2, none⟩ (.int .i64 (R i))).setCell ⟨g, i * 4 + 3, none⟩ (.int .i64 (S i))) P Q R S := by
  intro k hk
  obtain ⟨⟨c0, c1, c2, c3⟩, f0, f1, f2, f3⟩ := h k hk
  refine ⟨?_, by simpa using f0, by simpa using f1, by simpa using f2, by simpa using f3⟩
  by_cases e : k = i
  · subst e
    simp only [show k < k + 1 by omega, if_true]
    refine ⟨?_, ?_, ?_, ?_⟩
    · exact other_cell (by omega) (other_cell (by omega) (other_cell (by omega) (World.cell?_setCell_same _ _ _ c0)))
    · exact other_cell (by omega) (other_cell (by omega) (World.cell?_setCell_same _ _ _ (other_cell (by omega) c1)))
    · exact other_cell (by omega) (World.cell?_setCell_same _ _ _ (other_cell (by omega) (other_cell (by omega) c2)))
    · exact World.cell?_setCell_same _ _ _ (other_cell (by omega) (other_cell (by omega) (other_cell (by omega) c3)))
  · have hq : (k < i + 1) = (k < i) := by apply propext; omega
    simp only [hq]
    refine ⟨?_, ?_, ?_, ?_⟩
    · exact other_cell (by omega) (other_cell (by omega) (other_cell (by omega) (other_cell (by omega) c0)))
    · exact other_cell (by omega) (other_cell (by omega) (other_cell (by omega) (other_cell (by omega) c1)))
    · exact other_cell (by omega) (other_cell (by omega) (other_cell (by omega) (other_cell (by omega) c2)))
    · exact other_cell (by omega) (other_cell (by omega) (other_cell (by omega) (other_cell (by omega) c3)))
theorem FillR.below {g len i : Nat} {w w' : World} {P Q R S : Nat → Int} (h : FillR g len i w P Q R S) (hb : Below w.heap.size w w') (hg : g < w.heap.size) : FillR g len i w' P Q R S := fun k hk => by
  obtain ⟨⟨c0, c1, c2, c3⟩, f0, f1, f2, f3⟩ := h k hk
  exact ⟨⟨keepC hb c0, keepC hb c1, keepC hb c2, keepC hb c3⟩, (hb.frozen (p := ⟨g, k * 4, none⟩) hg).trans f0, (hb.frozen (p := ⟨g, k * 4 + 1, none⟩) hg).trans f1, (hb.frozen (p := ⟨g, k * 4 + 2, none⟩) hg).trans f2, (hb.frozen (p := ⟨g, k * 4 + 3, none⟩) hg).trans f3⟩

theorem szRectS_any (a : Option Addr) (len cap : Nat) (l : Int) (w : World) (h0 : 0 ≤ l) (h1 : l ≤ 1048576) (hlen : len ≤ maxLen) : Calls Tryz.prog 8 #[.slice a len cap, .int .i64 l] w fun e w' => e = .returned (.int .i64 (if (len : Int) ≤ l then l - len else -1)) ∧ w = w' := by
  unfold maxLen at hlen
  by_cases h : (len : Int) ≤ l
  · rw [if_pos h]
    have h2 : ¬ (l - (len : Int) < 0) := by omega
    go_enter Tryz.func8, Tryz.ntmps8
    go_wp2
    go_ret
    exact ⟨rfl, rfl⟩
  · rw [if_neg h]
    have h2 : l - (len : Int) < 0 := by omega
    go_enter Tryz.func8, Tryz.ntmps8
    go_wp2
    go_ret
    exact ⟨rfl, rfl⟩

/-- What copying a slice of rectangles gives: a new row with the same rectangles. -/
def CopiedR (w : World) (len : Nat) (P Q R S : Nat → Int) (e : Ending) (w' : World) : Prop :=
  ∃ g : Nat, w.heap.size ≤ g ∧ g < w'.heap.size ∧ e = .returned (.slice (some ⟨g, 0, none⟩) len len) ∧ Below w.heap.size w w' ∧ RectsIs w'.heap.size w' (some ⟨g, 0, none⟩) len P Q R S

theorem made4 (n j : Nat) (h : j < n) : (madeCells (Value.agg #[.int .i64 0, .int .i64 0, .int .i64 0, .int .i64 0]).cells n).toList[j]? = some (.int .i64 0) := by
  have e : (Value.agg #[.int .i64 0, .int .i64 0, .int .i64 0, .int .i64 0]).cells = #[.int .i64 0, .int .i64 0, .int .i64 0, .int .i64 0] := rfl
  rw [e]
  simp only [madeCells, Array.getElem?_toList, Array.getElem?_map]
  rw [Array.getElem?_eq_getElem (by simpa using h)]
  simp only [Option.map_some, Array.getElem_range]
  rcases (show j % 4 = 0 ∨ j % 4 = 1 ∨ j % 4 = 2 ∨ j % 4 = 3 by omega) with q | q | q | q <;> simp [q]
theorem Tryz.infoR : (Tryz.prog.info? 65).map (fun i => (i.zero, i.size, i.bytes)) = some (some (.agg #[.int .i64 0, .int .i64 0, .int .i64 0, .int .i64 0]), 4, 32) := by kernel_rfl

set_option maxHeartbeats 4000000 in
theorem toRectS_any (a : Option Addr) (len cap : Nat) (P Q R S : Nat → Int) (w : World) (hlen : len ≤ 1048576) (hP : RectsIs w.heap.size w a len P Q R S) :
    Calls Tryz.prog 10 #[.slice a len cap] w (CopiedR w len P Q R S) := by
  obtain ⟨i0, hi, hz0, hz1, hz2⟩ := info_parts Tryz.infoR
  go_enter Tryz.func10, Tryz.ntmps10
  go_wp2_with (at_make; refine wpList_make_full _ rfl _ _ 26 rfl w.heap.size 65 i0 (.agg #[.int .i64 0, .int .i64 0, .int .i64 0, .int .i64 0]) 4 Tryz.underlying26 hi hz0 hz1 .i64 .i64 len len len rfl rfl rfl rfl (by rw [hz2]; omega) (by unfold maxLen; omega) (Nat.le_refl _) ?_; intro w1 own1 grow1)
  have hB1 : Below w.heap.size w w1 := (Below.refl _ _).grown grow1 (Nat.le_refl _) (fun k hk => by cases hk)
  have hlt1 := (own1.lt w.heap.size rfl).2
  have hF1 : FillR w.heap.size len 0 w1 P Q R S := fun k hk => by
    refine ⟨⟨?_, ?_, ?_, ?_⟩, own1.frozenAt _, own1.frozenAt _, own1.frozenAt _, own1.frozenAt _⟩
    all_goals
      rw [own1.cellAt _ (by omega)]
      exact made4 _ _ (by omega)
  clear own1 grow1 hi hz0 hz1 hz2
  go_loopw [4] (fun s4 wr => ∃ i : Nat, i ≤ len ∧ s4 = .int .i64 i ∧ w.heap.size < wr.heap.size ∧ Below w.heap.size w wr ∧ FillR w.heap.size len i wr P Q R S) (fun s4 _ => len - (intOf s4).toNat)
  case atStart => exact ⟨0, by omega, rfl, hlt1, hB1, hF1⟩
  case round =>
    obtain ⟨i, hi, rfl, hsz, hW, hF⟩ := hrel
    clear hF1 hB1 hlt1
    by_cases hlt : i < len
    · obtain ⟨b, off, rfl, hb, c0, c1, c2, c3⟩ := hP.below hW i hlt
      have q1 : (i : Int) < (len : Int) := by omega
      have q0 : (0 : Int) ≤ (i : Int) := by omega
      go_wp2_with fail
      refine (toRect_any _ _ _ _ _).mono ?_
      rintro e w2 ⟨rfl, bw2⟩
      have hF2 := hF.below bw2 hsz
      have hs2 := bw2.size
      obtain ⟨⟨d0, d1, d2, d3⟩, f0, f1, f2, f3⟩ := hF2 i hlt
      have HF := hF2.step hlt
      go_wp2_with fail
      go_roundw
      case rel => exact ⟨i + 1, by omega, by go_num, by simp; omega, by (repeat (first | (with_reducible exact Below.refl _ _) | (with_reducible refine Ext.drewN ?_ _) | (with_reducible refine Below.drew ?_) | (with_reducible refine Ext.alloc ?_ _) | (with_reducible refine Ext.setCell ?_ (by simp; try omega) _) | (with_reducible refine Ext.trans ?_ (by assumption)) | (with_reducible assumption) | exact Below.refl _ _)), HF⟩
      case measure => simp [intOf]; omega
    · have q1 : ¬ (i : Int) < (len : Int) := by omega
      obtain rfl : i = len := by omega
      go_wp2_with fail
      go_ret
      exact ⟨w.heap.size, Nat.le_refl _, hsz, rfl, hW, fun k hk => by
        obtain ⟨⟨c0, c1, c2, c3⟩, f0, f1, f2, f3⟩ := hF k hk
        rw [if_pos hk] at c0 c1 c2 c3
        exact ⟨w.heap.size, 0, rfl, hsz, by simpa using c0, by simpa using c1, by simpa using c2, by simpa using c3⟩⟩

/-- Two slices of the same rectangles are equal. -/
theorem eqRectS_any (a b : Option Addr) (len c1 c2 : Nat) (P Q R S : Nat → Int) (w : World) (hlen : len ≤ 1048576) (hP : RectsIs w.heap.size w a len P Q R S) (hQ : RectsIs w.heap.size w b len P Q R S) :
    Calls Tryz.prog 13 #[.slice a len c1, .slice b len c2] w fun e w' => e = .returned (.bool true) ∧ Below w.heap.size w w' := by
  go_enter Tryz.func13, Tryz.ntmps13
  go_wp2_with fail
  go_loopw [5] (fun s5 wr => ∃ i : Nat, i ≤ len ∧ s5 = .int .i64 i ∧ Below w.heap.size w wr) (fun s5 _ => len - (intOf s5).toNat)
  case atStart => exact ⟨0, by omega, rfl, Below.refl _ _⟩
  case round =>
    obtain ⟨i, hi, rfl, hW⟩ := hrel
    by_cases hlt : i < len
    · obtain ⟨b1, o1, rfl, hb1, x0, x1, x2, x3⟩ := hP.below hW i hlt
      obtain ⟨b2, o2, rfl, hb2, y0, y1, y2, y3⟩ := hQ.below hW i hlt
      have q1 : (i : Int) < (len : Int) := by omega
      have q0 : (0 : Int) ≤ (i : Int) := by omega
      have he : eqRB (P i) (Q i) (R i) (S i) (P i) (Q i) (R i) (S i) = true := by simp [eqRB]
      go_wp2_with fail
      go_region_held3 (fun w' => w'.cell? ⟨b1, o1 + i * 4, none⟩ = some (.int .i64 (P i)) ∧ w'.cell? ⟨b1, o1 + i * 4 + 1, none⟩ = some (.int .i64 (Q i)) ∧ w'.cell? ⟨b1, o1 + i * 4 + 2, none⟩ = some (.int .i64 (R i)) ∧ w'.cell? ⟨b1, o1 + i * 4 + 3, none⟩ = some (.int .i64 (S i)) ∧ w'.cell? ⟨b2, o2 + i * 4, none⟩ = some (.int .i64 (P i)) ∧ w'.cell? ⟨b2, o2 + i * 4 + 1, none⟩ = some (.int .i64 (Q i)) ∧ w'.cell? ⟨b2, o2 + i * 4 + 2, none⟩ = some (.int .i64 (R i)) ∧ w'.cell? ⟨b2, o2 + i * 4 + 3, none⟩ = some (.int .i64 (S i)))
        (first | ((try dsimp only); go_split_ands; (repeat' (with_reducible refine And.intro ?_ ?_)) <;> first | (with_reducible assumption) | (with_reducible exact keepC (by assumption) (by assumption)) | (go_keep; done)))
        (first | (go_at_call 52; refine (eqRect_any _ _ _ _ _ _ _ _ _).mono ?_; rintro e w2 ⟨rfl, bw2⟩))
      go_wp2_with fail
      go_roundw
      case rel => exact ⟨i + 1, by omega, by go_num, by (repeat (first | (with_reducible exact Below.refl _ _) | (with_reducible refine Ext.drewN ?_ _) | (with_reducible refine Below.drew ?_) | (with_reducible refine Ext.alloc ?_ _) | (with_reducible refine Ext.setCell ?_ (by simp; try omega) _) | (with_reducible refine Ext.trans ?_ (by assumption)) | (with_reducible assumption) | exact Below.refl _ _))⟩
      case measure => simp [intOf]; omega
    · have q1 : ¬ (i : Int) < (len : Int) := by omega
      go_wp2_with fail
      go_ret
      exact ⟨rfl, hW⟩
end Go.Proofs.YtfbalpkjcfdakaaGreatDoor
