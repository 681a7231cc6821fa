/- Small facts that every walk of this repository's uses: what a call keeps of the memory that was there. No condition. -/
import Derived.Test.YtfbalpkjcfdakaaRows
import Derived.WalkKit
import Derived.Below
import Derived.Outline
import Derived.Deep.QuietTactic
import Derived.BigQuiet
import Derived.LoopTactic
import Derived.Handy
import Derived.Deep.RegionHeld3
import Derived.Deep.DeepCutAuto
import Derived.Deep.DrawnRows
import Derived.Lib.Hide
import Derived.Laws.StructEq
import Derived.Laws.OwnMore
namespace Go.Proofs.Ytfbalpkjcfdakaa
open Go.RowKit
set_option linter.unusedVariables false
set_option linter.unusedSimpArgs false

@[simp] theorem le_s2 (n : Nat) : n ≤ n + 1 + 1 := by omega
@[simp] theorem le_s3 (n : Nat) : n ≤ n + 1 + 1 + 1 := by omega
@[simp] theorem le_s4 (n : Nat) : n ≤ n + 1 + 1 + 1 + 1 := by omega
@[simp] theorem le_s5 (n : Nat) : n ≤ n + 1 + 1 + 1 + 1 + 1 := by omega
@[simp] theorem le_s6 (n : Nat) : n ≤ n + 1 + 1 + 1 + 1 + 1 + 1 := by omega
@[simp] theorem le_s7 (n : Nat) : n ≤ n + 1 + 1 + 1 + 1 + 1 + 1 + 1 := by omega
@[simp] theorem le_s8 (n : Nat) : n ≤ n + 1 + 1 + 1 + 1 + 1 + 1 + 1 + 1 := by omega
@[simp] theorem le_s9 (n : Nat) : n ≤ n + 1 + 1 + 1 + 1 + 1 + 1 + 1 + 1 + 1 := by omega
@[simp] theorem le_s10 (n : Nat) : n ≤ n + 1 + 1 + 1 + 1 + 1 + 1 + 1 + 1 + 1 + 1 := by omega
@[simp] theorem le_s11 (n : Nat) : n ≤ n + 1 + 1 + 1 + 1 + 1 + 1 + 1 + 1 + 1 + 1 + 1 := by omega
@[simp] theorem le_s12 (n : Nat) : n ≤ n + 1 + 1 + 1 + 1 + 1 + 1 + 1 + 1 + 1 + 1 + 1 + 1 := by omega

def inB (n lo hi : Int) : Bool := decide (lo ≤ n ∧ n ≤ hi)
theorem inB_t {n lo hi : Int} (h : inB n lo hi = true) : lo ≤ n ∧ n ≤ hi := of_decide_eq_true h
theorem inB_mk {n lo hi : Int} (h : lo ≤ n) (k : n ≤ hi) : inB n lo hi = true := decide_eq_true ⟨h, k⟩
theorem inB_f {n lo hi : Int} (h : ¬ (lo ≤ n ∧ n ≤ hi)) : inB n lo hi = false := decide_eq_false h
theorem bcell {W w1 : World} (hb : Below W.heap.size W w1) : W.heap.size ≤ w1.heap.size ∧ (∀ b, b < W.heap.size → b < w1.heap.size) ∧ (∀ b o, b < W.heap.size → w1.cell? ⟨b, o, none⟩ = W.cell? ⟨b, o, none⟩) ∧ (∀ b o, b < W.heap.size → w1.frozen? ⟨b, o, none⟩ = W.frozen? ⟨b, o, none⟩) :=
  ⟨hb.size, fun b h => Nat.lt_of_lt_of_le h hb.size, fun b o h => hb.cell (p := ⟨b, o, none⟩) h, fun b o h => hb.frozen (p := ⟨b, o, none⟩) h⟩
theorem Ext.trans {a b c : World} (h : Below a.heap.size a b) (k : Below b.heap.size b c) : Below a.heap.size a c := Below.trans h (k.mono h.size)
theorem Ext.alloc {a b : World} (h : Below a.heap.size a b) (o : Obj) : Below a.heap.size a (b.alloc o) := Below.alloc h h.size o
theorem Ext.setCell {a b : World} (h : Below a.heap.size a b) {p : Addr} (hp : a.heap.size ≤ p.block) (u : Value) : Below a.heap.size a (b.setCell p u) := Below.setCell h hp u
theorem Ext.same {a b : World} (h : a = b) : Below a.heap.size a b := h ▸ Below.refl _ _
theorem ret_bool {a b : Bool} (h : a = b) : Ending.returned (.bool a) = .returned (.bool b) := by rw [h]
theorem ret_int {k : IntKind} {a b : Int} (h : a = b) : Ending.returned (.int k a) = .returned (.int k b) := by rw [h]
theorem ret_point {a b c d : Int} (h : a = c) (k : b = d) : Ending.returned (.agg #[.int .i64 a, .int .i64 b]) = .returned (.agg #[.int .i64 c, .int .i64 d]) := by rw [h, k]
theorem Ext.drewN {a b : World} (h : Below a.heap.size a b) (n : Nat) : Below a.heap.size a (b.drewN n) := ⟨h.os, h.tape, h.output, h.size, h.block⟩
theorem keepC {w1 w2 : World} {b o : Nat} {v : Value} (hb : Below w1.heap.size w1 w2) (h : w1.cell? ⟨b, o, none⟩ = some v) : w2.cell? ⟨b, o, none⟩ = some v :=
  (hb.cell (p := ⟨b, o, none⟩) (World.block_lt_of_cell? w1 ⟨b, o, none⟩ h)).trans h
theorem keepA {w1 : World} {b o : Nat} {v : Value} (h : w1.cell? ⟨b, o, none⟩ = some v) (O : Obj) : (w1.alloc O).cell? ⟨b, o, none⟩ = some v := by
  rw [World.cell?_alloc_lt _ _ _ (World.block_lt_of_cell? w1 ⟨b, o, none⟩ h)]; exact h
theorem keepR {w1 : World} {b o : Nat} {v : Value} {O : Obj} (h : (w1.alloc O).cell? ⟨b, o, none⟩ = some v) (hb : b < w1.heap.size) (O' : Obj) : (w1.alloc O').cell? ⟨b, o, none⟩ = some v := by
  rw [World.cell?_alloc_lt _ _ _ hb] at h ⊢; exact h
theorem keepS {w1 : World} {b o : Nat} {v : Value} (h : w1.cell? ⟨b, o, none⟩ = some v) {p : Addr} (hp : p.block ≠ b) (u : Value) : (w1.setCell p u).cell? ⟨b, o, none⟩ = some v := by
  rw [World.cell?_of_block (Below.heap_setCell w1 p u b (Ne.symm hp))]; exact h
end Go.Proofs.Ytfbalpkjcfdakaa

namespace Go.Proofs.Ytfbalpkjcfdakaa
open Go.RowKit
set_option linter.unusedVariables false
set_option linter.unusedSimpArgs false
attribute [local go_sem ↓] Go.wp_at_zero Go.wp_at_succ

/-- The rectangle is valid. -/
def rvB (a b c d : Int) : Bool := decide (-40 ≤ a ∧ a < c ∧ c ≤ 40 ∧ -40 ≤ b ∧ b < d ∧ d ≤ 40)
theorem rvB_t {a b c d : Int} (h : rvB a b c d = true) : -40 ≤ a ∧ a < c ∧ c ≤ 40 ∧ -40 ≤ b ∧ b < d ∧ d ≤ 40 := of_decide_eq_true h
theorem rvB_mk {a b c d : Int} (h : -40 ≤ a ∧ a < c ∧ c ≤ 40 ∧ -40 ≤ b ∧ b < d ∧ d ≤ 40) : rvB a b c d = true := decide_eq_true h
theorem rvB_f {a b c d : Int} (h : ¬ (-40 ≤ a ∧ a < c ∧ c ≤ 40 ∧ -40 ≤ b ∧ b < d ∧ d ≤ 40)) : rvB a b c d = false := decide_eq_false h

/-- The slice's elements are the rectangles (P i, Q i, R i, S i), below block B. -/
def RectsIs (B : Nat) (w : World) (a : Option Addr) (len : Nat) (P Q R S : Nat → Int) : Prop :=
  ∀ i, i < len → ∃ b off : Nat, a = some ⟨b, off, none⟩ ∧ b < B ∧ w.cell? ⟨b, off + i * 4, none⟩ = some (.int .i64 (P i)) ∧ w.cell? ⟨b, off + i * 4 + 1, none⟩ = some (.int .i64 (Q i)) ∧ w.cell? ⟨b, off + i * 4 + 2, none⟩ = some (.int .i64 (R i)) ∧ w.cell? ⟨b, off + i * 4 + 3, none⟩ = some (.int .i64 (S i))
theorem RectsIs.below {B : Nat} {w w' : World} {a : Option Addr} {len : Nat} {P Q R S : Nat → Int} (h : RectsIs B w a len P Q R S) (hb : Below B w w') : RectsIs B w' a len P Q R S := fun i hi => by
  obtain ⟨b, off, h1, h2, h3, h4, h5, h6⟩ := h i hi
  exact ⟨b, off, h1, h2, (hb.cell (p := ⟨b, off + i * 4, none⟩) h2).trans h3, (hb.cell (p := ⟨b, off + i * 4 + 1, none⟩) h2).trans h4, (hb.cell (p := ⟨b, off + i * 4 + 2, none⟩) h2).trans h5, (hb.cell (p := ⟨b, off + i * 4 + 3, none⟩) h2).trans h6⟩
theorem RectsIs.ext {w w' : World} {a : Option Addr} {len : Nat} {P Q R S : Nat → Int} (h : RectsIs w.heap.size w a len P Q R S) (hb : Below w.heap.size w w') : RectsIs w'.heap.size w' a len P Q R S := fun i hi => by
  obtain ⟨b, off, h1, h2, h3⟩ := h.below hb i hi
  exact ⟨b, off, h1, Nat.lt_of_lt_of_le h2 hb.size, h3⟩

/-- A rectangle that may be written lies at the start of block g. -/
def RectAt (w : World) (g : Nat) (a b c d : Int) : Prop :=
  w.cell? ⟨g, 0, none⟩ = some (.int .i64 a) ∧ w.cell? ⟨g, 1, none⟩ = some (.int .i64 b) ∧ w.cell? ⟨g, 2, none⟩ = some (.int .i64 c) ∧ w.cell? ⟨g, 3, none⟩ = some (.int .i64 d) ∧ w.frozen? ⟨g, 0, none⟩ = false ∧ w.frozen? ⟨g, 1, none⟩ = false ∧ w.frozen? ⟨g, 2, none⟩ = false ∧ w.frozen? ⟨g, 3, none⟩ = false

theorem RectAt.lt {w : World} {g : Nat} {a b c d : Int} (h : RectAt w g a b c d) : g < w.heap.size := World.block_lt_of_cell? w ⟨g, 0, none⟩ h.1
theorem RectAt.other {w : World} {g : Nat} {a b c d : Int} (h : RectAt w g a b c d) {p : Addr} (hp : p.block ≠ g) (u : Value) : RectAt (w.setCell p u) g a b c d := by
  obtain ⟨c0, c1, c2, c3, f0, f1, f2, f3⟩ := h
  exact ⟨keepS c0 hp u, keepS c1 hp u, keepS c2 hp u, keepS c3 hp u, by simpa [go_sem] using f0, by simpa [go_sem] using f1, by simpa [go_sem] using f2, by simpa [go_sem] using f3⟩
theorem RectAt.below {w w' : World} {g : Nat} {a b c d : Int} (h : RectAt w g a b c d) (hb : Below w.heap.size w w') : RectAt w' g a b c d := by
  have hl := h.lt
  obtain ⟨c0, c1, c2, c3, f0, f1, f2, f3⟩ := h
  exact ⟨keepC hb c0, keepC hb c1, keepC hb c2, keepC hb c3, (hb.frozen (p := ⟨g, 0, none⟩) hl).trans f0, (hb.frozen (p := ⟨g, 1, none⟩) hl).trans f1, (hb.frozen (p := ⟨g, 2, none⟩) hl).trans f2, (hb.frozen (p := ⟨g, 3, none⟩) hl).trans f3⟩
theorem RectAt.alloc {w : World} {g : Nat} {a b c d : Int} (h : RectAt w g a b c d) (O : Obj) : RectAt (w.alloc O) g a b c d := h.below ((Below.refl _ _).alloc (Nat.le_refl _) O)
theorem RectAt.set {w : World} {g : Nat} {a b c d : Int} (h : RectAt w g a b c d) (p q r s : Int) : RectAt ((((w.setCell ⟨g, 0, none⟩ (.int .i64 p)).setCell ⟨g, 1, none⟩ (.int .i64 q)).setCell ⟨g, 2, none⟩ (.int .i64 r)).setCell ⟨g, 3, none⟩ (.int .i64 s)) g p q r s := by
  obtain ⟨c0, c1, c2, c3, f0, f1, f2, f3⟩ := h
  have o : ∀ (w : World) (i j : Nat) (u v : Value), i ≠ j → w.cell? ⟨g, i, none⟩ = some v → (w.setCell ⟨g, j, none⟩ u).cell? ⟨g, i, none⟩ = some v := fun w i j u v hij hc => by
    rw [World.cell?_setCell_other _ _ _ _ (by simp <;> omega)]; exact hc
  refine ⟨?_, ?_, ?_, ?_, by simpa [go_sem] using f0, by simpa [go_sem] using f1, by simpa [go_sem] using f2, by simpa [go_sem] using f3⟩
  · exact o _ _ _ _ _ (by omega) (o _ _ _ _ _ (by omega) (o _ _ _ _ _ (by omega) (World.cell?_setCell_same _ _ _ c0)))
  · exact o _ _ _ _ _ (by omega) (o _ _ _ _ _ (by omega) (World.cell?_setCell_same _ _ _ (o _ _ _ _ _ (by omega) c1)))
  · exact o _ _ _ _ _ (by omega) (World.cell?_setCell_same _ _ _ (o _ _ _ _ _ (by omega) (o _ _ _ _ _ (by omega) c2)))
  · exact World.cell?_setCell_same _ _ _ (o _ _ _ _ _ (by omega) (o _ _ _ _ _ (by omega) (o _ _ _ _ _ (by omega) c3)))

/-- The least of s and the first n values of f. -/
def mn (f : Nat → Int) (s : Int) : Nat → Int
  | 0 => s
  | n + 1 => if f n < mn f s n then f n else mn f s n
def mx (f : Nat → Int) (s : Int) : Nat → Int
  | 0 => s
  | n + 1 => if mx f s n < f n then f n else mx f s n

end Go.Proofs.Ytfbalpkjcfdakaa

namespace Go.Proofs.Ytfbalpkjcfdakaa
open Go.RowKit
set_option linter.unusedVariables false
set_option linter.unusedSimpArgs false
attribute [local go_sem ↓] Go.wp_at_zero Go.wp_at_succ

def eqRB (a b c d p q r s : Int) : Bool := a == p && (b == q && (c == r && d == s))
/-- A slice of one or two rectangles at the start of a block. -/
theorem rects1 {w : World} {g : Nat} {a b c d : Int} (h0 : w.cell? ⟨g, 0, none⟩ = some (.int .i64 a)) (h1 : w.cell? ⟨g, 1, none⟩ = some (.int .i64 b)) (h2 : w.cell? ⟨g, 2, none⟩ = some (.int .i64 c)) (h3 : w.cell? ⟨g, 3, none⟩ = some (.int .i64 d)) :
    RectsIs w.heap.size w (some ⟨g, 0, none⟩) 1 (fun _ => a) (fun _ => b) (fun _ => c) (fun _ => d) := fun i hi => by
  obtain rfl : i = 0 := by omega
  exact ⟨g, 0, rfl, World.block_lt_of_cell? w ⟨g, 0, none⟩ h0, h0, h1, h2, h3⟩
def pick (a b : Int) (i : Nat) : Int := if i = 0 then a else b
theorem rects2 {w : World} {g : Nat} {a b c d p q r s : Int} (h0 : w.cell? ⟨g, 0, none⟩ = some (.int .i64 a)) (h1 : w.cell? ⟨g, 1, none⟩ = some (.int .i64 b)) (h2 : w.cell? ⟨g, 2, none⟩ = some (.int .i64 c)) (h3 : w.cell? ⟨g, 3, none⟩ = some (.int .i64 d)) (h4 : w.cell? ⟨g, 4, none⟩ = some (.int .i64 p)) (h5 : w.cell? ⟨g, 5, none⟩ = some (.int .i64 q)) (h6 : w.cell? ⟨g, 6, none⟩ = some (.int .i64 r)) (h7 : w.cell? ⟨g, 7, none⟩ = some (.int .i64 s)) :
    RectsIs w.heap.size w (some ⟨g, 0, none⟩) 2 (pick a p) (pick b q) (pick c r) (pick d s) := fun i hi => by
  have hg := World.block_lt_of_cell? w ⟨g, 0, none⟩ h0
  rcases (show i = 0 ∨ i = 1 by omega) with rfl | rfl
  · exact ⟨g, 0, rfl, hg, h0, h1, h2, h3⟩
  · exact ⟨g, 0, rfl, hg, h4, h5, h6, h7⟩

theorem mn1 (a p : Int) : mn (fun _ => a) p 1 = p ↔ p ≤ a := by
  show (if a < p then a else p) = p ↔ p ≤ a
  by_cases h : a < p
  · rw [if_pos h]; omega
  · rw [if_neg h]; omega
theorem mx1 (a p : Int) : mx (fun _ => a) p 1 = p ↔ a ≤ p := by
  show (if p < a then a else p) = p ↔ a ≤ p
  by_cases h : p < a
  · rw [if_pos h]; omega
  · rw [if_neg h]; omega
theorem box_eq (a b c d p q r s : Int) : eqRB (mn (fun _ => a) p 1) (mn (fun _ => b) q 1) (mx (fun _ => c) r 1) (mx (fun _ => d) s 1) p q r s = decide (p ≤ a ∧ q ≤ b ∧ c ≤ r ∧ d ≤ s) := by
  simp only [eqRB]
  rw [Bool.eq_iff_iff]
  simp only [Bool.and_eq_true, beq_iff_eq, decide_eq_true_eq, mn1, mx1]

def allV (P Q R S : Nat → Int) (n : Nat) : Bool := (List.range n).all fun i => rvB (P i) (Q i) (R i) (S i)
theorem allV_f {P Q R S : Nat → Int} {n i : Nat} (h : i < n) (hf : rvB (P i) (Q i) (R i) (S i) = false) : allV P Q R S n = false := by
  unfold allV
  rw [List.all_eq_false]
  exact ⟨i, List.mem_range.2 h, by simp [hf]⟩
theorem allV_t {P Q R S : Nat → Int} {n : Nat} (h : ∀ i, i < n → rvB (P i) (Q i) (R i) (S i) = true) : allV P Q R S n = true := by
  unfold allV
  rw [List.all_eq_true]
  exact fun i hi => h i (List.mem_range.1 hi)
theorem allV_at {P Q R S : Nat → Int} {n i : Nat} (h : allV P Q R S n = true) (hi : i < n) : rvB (P i) (Q i) (R i) (S i) = true := by
  unfold allV at h
  exact List.all_eq_true.1 h i (List.mem_range.2 hi)

theorem allV2 (a b c d p q r s : Int) : allV (pick a p) (pick b q) (pick c r) (pick d s) 2 = (rvB a b c d && rvB p q r s) := by
  unfold allV
  rw [show List.range 2 = [0, 1] from rfl]
  simp [pick]

def hi2 (a p : Int) : Int := if a < p then p else a
def lo2 (a p : Int) : Int := if p < a then p else a
theorem ret_rect {a b c d p q r s : Int} (h0 : a = p) (h1 : b = q) (h2 : c = r) (h3 : d = s) : Ending.returned (.agg #[.int .i64 a, .int .i64 b, .int .i64 c, .int .i64 d]) = .returned (.agg #[.int .i64 p, .int .i64 q, .int .i64 r, .int .i64 s]) := by rw [h0, h1, h2, h3]
end Go.Proofs.Ytfbalpkjcfdakaa

namespace Go.Proofs.Ytfbalpkjcfdakaa
open Go.RowKit
set_option linter.unusedVariables false
set_option linter.unusedSimpArgs false
attribute [local go_sem ↓] Go.wp_at_zero Go.wp_at_succ

def areaV (a b c d : Int) : Int := if rvB a b c d = true then (c - a) * (d - b) else -1
theorem area_bd {a b c d : Int} (h : rvB a b c d = true) : 0 ≤ (c - a) * (d - b) ∧ (c - a) * (d - b) ≤ 6400 := by
  obtain ⟨h1, h2, h3, h4, h5, h6⟩ := rvB_t h
  refine ⟨Int.mul_nonneg (by omega) (by omega), ?_⟩
  have := Int.mul_le_mul (a := c - a) (b := d - b) (c := 80) (d := 80) (by omega) (by omega) (by omega) (by omega)
  omega
def rcB (a b c d x y : Int) : Bool := rvB a b c d && decide (a ≤ x ∧ x < c ∧ b ≤ y ∧ y < d)
theorem inRangeR_any (n lo hi : Int) (w : World) : Calls Try.prog 17 #[.int .i64 n, .int .i64 lo, .int .i64 hi] w fun e w' => e = .returned (.bool (inB n lo hi)) ∧ w = w' := by
  by_cases h1 : lo ≤ n
  · by_cases h2 : n ≤ hi
    all_goals
      go_enter Try.func17, Try.ntmps17
      go_wp2
      go_ret
      exact ⟨ret_bool (by simp [inB, h1, h2]), rfl⟩
  · go_enter Try.func17, Try.ntmps17
    go_wp2
    go_ret
    exact ⟨ret_bool (inB_f (by omega)).symm, rfl⟩
end Go.Proofs.Ytfbalpkjcfdakaa

namespace Go.Proofs.Ytfbalpkjcfdakaa
open Go.RowKit
set_option linter.unusedVariables false
set_option linter.unusedSimpArgs false
attribute [local go_sem ↓] Go.wp_at_zero Go.wp_at_succ

theorem hi2_bd (a p : Int) : a ≤ hi2 a p ∧ p ≤ hi2 a p ∧ (hi2 a p = a ∨ hi2 a p = p) := by
  unfold hi2; split <;> omega
theorem lo2_bd (a p : Int) : lo2 a p ≤ a ∧ lo2 a p ≤ p ∧ (lo2 a p = a ∨ lo2 a p = p) := by
  unfold lo2; split <;> omega

def ovB (a b c d p q r s : Int) : Bool := rvB a b c d && (rvB p q r s && decide (hi2 a p < lo2 c r ∧ hi2 b q < lo2 d s))
theorem ov_meet {a b c d p q r s : Int} (h1 : rvB a b c d = true) (h2 : rvB p q r s = true) : rvB (hi2 a p) (hi2 b q) (lo2 c r) (lo2 d s) = decide (hi2 a p < lo2 c r ∧ hi2 b q < lo2 d s) := by
  have i := rvB_t h1
  have j := rvB_t h2
  have k1 := hi2_bd a p
  have k2 := hi2_bd b q
  have k3 := lo2_bd c r
  have k4 := lo2_bd d s
  unfold rvB
  rw [decide_eq_decide]
  omega

def ixV (a b c d p q r s : Int) : Value := .tuple #[.agg #[.int .i64 (if ovB a b c d p q r s = true then hi2 a p else 0), .int .i64 (if ovB a b c d p q r s = true then hi2 b q else 0), .int .i64 (if ovB a b c d p q r s = true then lo2 c r else 0), .int .i64 (if ovB a b c d p q r s = true then lo2 d s else 0)], .bool (ovB a b c d p q r s)]
theorem ixV_no {a b c d p q r s : Int} (h : ovB a b c d p q r s = false) : ixV a b c d p q r s = .tuple #[.agg #[.int .i64 0, .int .i64 0, .int .i64 0, .int .i64 0], .bool false] := by simp [ixV, h]
theorem ixV_yes {a b c d p q r s : Int} (h : ovB a b c d p q r s = true) : ixV a b c d p q r s = .tuple #[.agg #[.int .i64 (hi2 a p), .int .i64 (hi2 b q), .int .i64 (lo2 c r), .int .i64 (lo2 d s)], .bool true] := by simp [ixV, h]

theorem ret_ix {a b c d p q r s : Int} {v : Bool} (h0 : a = p) (h1 : b = q) (h2 : c = r) (h3 : d = s) : Ending.returned (.tuple #[.agg #[.int .i64 a, .int .i64 b, .int .i64 c, .int .i64 d], .bool v]) = .returned (.tuple #[.agg #[.int .i64 p, .int .i64 q, .int .i64 r, .int .i64 s], .bool v]) := by rw [h0, h1, h2, h3]
end Go.Proofs.Ytfbalpkjcfdakaa

namespace Go.Proofs.Ytfbalpkjcfdakaa
open Go.RowKit
set_option linter.unusedVariables false
set_option linter.unusedSimpArgs false
attribute [local go_sem ↓] Go.wp_at_zero Go.wp_at_succ

theorem set4_all {w : World} {b : Nat} {u0 u1 u2 u3 v0 v1 v2 v3 : Value} (h0 : w.cell? ⟨b, 0, none⟩ = some u0) (h1 : w.cell? ⟨b, 1, none⟩ = some u1) (h2 : w.cell? ⟨b, 2, none⟩ = some u2) (h3 : w.cell? ⟨b, 3, none⟩ = some u3) :
    ((((w.setCell ⟨b, 0, none⟩ v0).setCell ⟨b, 1, none⟩ v1).setCell ⟨b, 2, none⟩ v2).setCell ⟨b, 3, none⟩ v3).cell? ⟨b, 0, none⟩ = some v0 ∧ ((((w.setCell ⟨b, 0, none⟩ v0).setCell ⟨b, 1, none⟩ v1).setCell ⟨b, 2, none⟩ v2).setCell ⟨b, 3, none⟩ v3).cell? ⟨b, 1, none⟩ = some v1 ∧ ((((w.setCell ⟨b, 0, none⟩ v0).setCell ⟨b, 1, none⟩ v1).setCell ⟨b, 2, none⟩ v2).setCell ⟨b, 3, none⟩ v3).cell? ⟨b, 2, none⟩ = some v2 ∧ ((((w.setCell ⟨b, 0, none⟩ v0).setCell ⟨b, 1, none⟩ v1).setCell ⟨b, 2, none⟩ v2).setCell ⟨b, 3, none⟩ v3).cell? ⟨b, 3, none⟩ = some v3 := by
  have o : ∀ (w : World) (i j : Nat) (u v : Value), i ≠ j → w.cell? ⟨b, i, none⟩ = some v → (w.setCell ⟨b, j, none⟩ u).cell? ⟨b, i, none⟩ = some v := fun w i j u v hij hc => by
    rw [World.cell?_setCell_other _ _ _ _ (by simp <;> omega)]; exact hc
  refine ⟨?_, ?_, ?_, ?_⟩
  · exact o _ _ _ _ _ (by omega) (o _ _ _ _ _ (by omega) (o _ _ _ _ _ (by omega) (World.cell?_setCell_same _ _ _ h0)))
  · exact o _ _ _ _ _ (by omega) (o _ _ _ _ _ (by omega) (World.cell?_setCell_same _ _ _ (o _ _ _ _ _ (by omega) h1)))
  · exact o _ _ _ _ _ (by omega) (World.cell?_setCell_same _ _ _ (o _ _ _ _ _ (by omega) (o _ _ _ _ _ (by omega) h2)))
  · exact World.cell?_setCell_same _ _ _ (o _ _ _ _ _ (by omega) (o _ _ _ _ _ (by omega) (o _ _ _ _ _ (by omega) h3)))
theorem set4_0 {w : World} {b : Nat} {u0 u1 u2 u3 v0 v1 v2 v3 : Value} (h0 : w.cell? ⟨b, 0, none⟩ = some u0) (h1 : w.cell? ⟨b, 1, none⟩ = some u1) (h2 : w.cell? ⟨b, 2, none⟩ = some u2) (h3 : w.cell? ⟨b, 3, none⟩ = some u3) :
    ((((w.setCell ⟨b, 0, none⟩ v0).setCell ⟨b, 1, none⟩ v1).setCell ⟨b, 2, none⟩ v2).setCell ⟨b, 3, none⟩ v3).cell? ⟨b, 0, none⟩ = some v0 := (set4_all h0 h1 h2 h3).1
theorem set4_1 {w : World} {b : Nat} {u0 u1 u2 u3 v0 v1 v2 v3 : Value} (h0 : w.cell? ⟨b, 0, none⟩ = some u0) (h1 : w.cell? ⟨b, 1, none⟩ = some u1) (h2 : w.cell? ⟨b, 2, none⟩ = some u2) (h3 : w.cell? ⟨b, 3, none⟩ = some u3) :
    ((((w.setCell ⟨b, 0, none⟩ v0).setCell ⟨b, 1, none⟩ v1).setCell ⟨b, 2, none⟩ v2).setCell ⟨b, 3, none⟩ v3).cell? ⟨b, 1, none⟩ = some v1 := (set4_all h0 h1 h2 h3).2.1
theorem set4_2 {w : World} {b : Nat} {u0 u1 u2 u3 v0 v1 v2 v3 : Value} (h0 : w.cell? ⟨b, 0, none⟩ = some u0) (h1 : w.cell? ⟨b, 1, none⟩ = some u1) (h2 : w.cell? ⟨b, 2, none⟩ = some u2) (h3 : w.cell? ⟨b, 3, none⟩ = some u3) :
    ((((w.setCell ⟨b, 0, none⟩ v0).setCell ⟨b, 1, none⟩ v1).setCell ⟨b, 2, none⟩ v2).setCell ⟨b, 3, none⟩ v3).cell? ⟨b, 2, none⟩ = some v2 := (set4_all h0 h1 h2 h3).2.2.1
theorem set4_3 {w : World} {b : Nat} {u0 u1 u2 u3 v0 v1 v2 v3 : Value} (h0 : w.cell? ⟨b, 0, none⟩ = some u0) (h1 : w.cell? ⟨b, 1, none⟩ = some u1) (h2 : w.cell? ⟨b, 2, none⟩ = some u2) (h3 : w.cell? ⟨b, 3, none⟩ = some u3) :
    ((((w.setCell ⟨b, 0, none⟩ v0).setCell ⟨b, 1, none⟩ v1).setCell ⟨b, 2, none⟩ v2).setCell ⟨b, 3, none⟩ v3).cell? ⟨b, 3, none⟩ = some v3 := (set4_all h0 h1 h2 h3).2.2.2

def ix0 (a b c d p q r s : Int) : Int := if ovB a b c d p q r s = true then hi2 a p else 0
def ix1 (a b c d p q r s : Int) : Int := if ovB a b c d p q r s = true then hi2 b q else 0
def ix2 (a b c d p q r s : Int) : Int := if ovB a b c d p q r s = true then lo2 c r else 0
def ix3 (a b c d p q r s : Int) : Int := if ovB a b c d p q r s = true then lo2 d s else 0
end Go.Proofs.Ytfbalpkjcfdakaa

namespace Go.Proofs.Ytfbalpkjcfdakaa
open Go.RowKit
set_option linter.unusedVariables false
set_option linter.unusedSimpArgs false
attribute [local go_sem ↓] Go.wp_at_zero Go.wp_at_succ

/-- The first i rectangles of a new row at block g have been filled in; the others are zero. -/
def FillR (g len i : Nat) (w : World) (P Q R S : Nat → Int) : Prop :=
  ∀ k, k < len → (w.cell? ⟨g, k * 4, none⟩ = some (.int .i64 (if k < i then P k else 0)) ∧ w.cell? ⟨g, k * 4 + 1, none⟩ = some (.int .i64 (if k < i then Q k else 0)) ∧ w.cell? ⟨g, k * 4 + 2, none⟩ = some (.int .i64 (if k < i then R k else 0)) ∧ w.cell? ⟨g, k * 4 + 3, none⟩ = some (.int .i64 (if k < i then S k else 0))) ∧ w.frozen? ⟨g, k * 4, none⟩ = false ∧ w.frozen? ⟨g, k * 4 + 1, none⟩ = false ∧ w.frozen? ⟨g, k * 4 + 2, none⟩ = false ∧ w.frozen? ⟨g, k * 4 + 3, none⟩ = false
theorem other_cell {g : Nat} {w : World} {i j : Nat} {u v : Value} (hij : i ≠ j) (hc : w.cell? ⟨g, i, none⟩ = some v) : (w.setCell ⟨g, j, none⟩ u).cell? ⟨g, i, none⟩ = some v := by
  rw [World.cell?_setCell_other _ _ _ _ (by simp <;> omega)]; exact hc
theorem FillR.step {g len i : Nat} {w : World} {P Q R S : Nat → Int} (h : FillR g len i w P Q R S) (hi : i < len) : FillR g len (i + 1) ((((w.setCell ⟨g, i * 4, none⟩ (.int .i64 (P i))).setCell ⟨g, i * 4 + 1, none⟩ (.int .i64 (Q i))).setCell ⟨g, i * 4 + 2, none⟩ (.int .i64 (R i))).setCell ⟨g, i * 4 + 3, none⟩ (.int .i64 (S i))) P Q R S := by
  intro k hk
  obtain ⟨⟨c0, c1, c2, c3⟩, f0, f1, f2, f3⟩ := h k hk
  refine ⟨?_, by simpa using f0, by simpa using f1, by simpa using f2, by simpa using f3⟩
  by_cases e : k = i
  · subst e
    simp only [show k < k + 1 by omega, if_true]
    refine ⟨?_, ?_, ?_, ?_⟩
    · exact other_cell (by omega) (other_cell (by omega) (other_cell (by omega) (World.cell?_setCell_same _ _ _ c0)))
    · exact other_cell (by omega) (other_cell (by omega) (World.cell?_setCell_same _ _ _ (other_cell (by omega) c1)))
    · exact other_cell (by omega) (World.cell?_setCell_same _ _ _ (other_cell (by omega) (other_cell (by omega) c2)))
    · exact World.cell?_setCell_same _ _ _ (other_cell (by omega) (other_cell (by omega) (other_cell (by omega) c3)))
  · have hq : (k < i + 1) = (k < i) := by apply propext; omega
    simp only [hq]
    refine ⟨?_, ?_, ?_, ?_⟩
    · exact other_cell (by omega) (other_cell (by omega) (other_cell (by omega) (other_cell (by omega) c0)))
    · exact other_cell (by omega) (other_cell (by omega) (other_cell (by omega) (other_cell (by omega) c1)))
    · exact other_cell (by omega) (other_cell (by omega) (other_cell (by omega) (other_cell (by omega) c2)))
    · exact other_cell (by omega) (other_cell (by omega) (other_cell (by omega) (other_cell (by omega) c3)))
theorem FillR.below {g len i : Nat} {w w' : World} {P Q R S : Nat → Int} (h : FillR g len i w P Q R S) (hb : Below w.heap.size w w') (hg : g < w.heap.size) : FillR g len i w' P Q R S := fun k hk => by
  obtain ⟨⟨c0, c1, c2, c3⟩, f0, f1, f2, f3⟩ := h k hk
  exact ⟨⟨keepC hb c0, keepC hb c1, keepC hb c2, keepC hb c3⟩, (hb.frozen (p := ⟨g, k * 4, none⟩) hg).trans f0, (hb.frozen (p := ⟨g, k * 4 + 1, none⟩) hg).trans f1, (hb.frozen (p := ⟨g, k * 4 + 2, none⟩) hg).trans f2, (hb.frozen (p := ⟨g, k * 4 + 3, none⟩) hg).trans f3⟩

/-- What copying a slice of rectangles gives: a new row with the same rectangles. -/
def CopiedR (w : World) (len : Nat) (P Q R S : Nat → Int) (e : Ending) (w' : World) : Prop :=
  ∃ g : Nat, w.heap.size ≤ g ∧ g < w'.heap.size ∧ e = .returned (.slice (some ⟨g, 0, none⟩) len len) ∧ Below w.heap.size w w' ∧ RectsIs w'.heap.size w' (some ⟨g, 0, none⟩) len P Q R S

theorem made4 (n j : Nat) (h : j < n) : (madeCells (Value.agg #[.int .i64 0, .int .i64 0, .int .i64 0, .int .i64 0]).cells n).toList[j]? = some (.int .i64 0) := by
  have e : (Value.agg #[.int .i64 0, .int .i64 0, .int .i64 0, .int .i64 0]).cells = #[.int .i64 0, .int .i64 0, .int .i64 0, .int .i64 0] := rfl
  rw [e]
  simp only [madeCells, Array.getElem?_toList, Array.getElem?_map]
  rw [Array.getElem?_eq_getElem (by simpa using h)]
  simp only [Option.map_some, Array.getElem_range]
  rcases (show j % 4 = 0 ∨ j % 4 = 1 ∨ j % 4 = 2 ∨ j % 4 = 3 by omega) with q | q | q | q <;> simp [q]
end Go.Proofs.Ytfbalpkjcfdakaa
