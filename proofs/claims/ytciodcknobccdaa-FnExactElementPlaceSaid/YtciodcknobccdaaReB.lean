/- Rectangles: equality of whole rectangles, validity by the program, many rectangles at once, what two have in common. Conditions: those of each theorem. -/
import Derived.Test.YtciodcknobccdaaReA
import Derived.Laws.StructEq
namespace Go.Proofs.Ytciodcknobccdaa
open Go.RowKit
set_option linter.unusedVariables false
set_option linter.unusedSimpArgs false
attribute [local go_sem ↓] Go.wp_at_zero Go.wp_at_succ

def eqRB (a b c d p q r s : Int) : Bool := a == p && (b == q && (c == r && d == s))
/-- A slice of one or two rectangles at the start of a block. -/
theorem rects1 {w : World} {g : Nat} {a b c d : Int} (h0 : w.cell? ⟨g, 0, none⟩ = some (.int .i64 a)) (h1 : w.cell? ⟨g, 1, none⟩ = some (.int .i64 b)) (h2 : w.cell? ⟨g, 2, none⟩ = some (.int .i64 c)) (h3 : w.cell? ⟨g, 3, none⟩ = some (.int .i64 d)) :
    RectsIs w.heap.size w (some ⟨g, 0, none⟩) 1 (fun _ => a) (fun _ => b) (fun _ => c) (fun _ => d) := fun i hi => by
  obtain rfl : i = 0 := by omega
  exact ⟨g, 0, rfl, World.block_lt_of_cell? w ⟨g, 0, none⟩ h0, h0, h1, h2, h3⟩
def pick (a b : Int) (i : Nat) : Int := if i = 0 then a else b
theorem rects2 {w : World} {g : Nat} {a b c d p q r s : Int} (h0 : w.cell? ⟨g, 0, none⟩ = some (.int .i64 a)) (h1 : w.cell? ⟨g, 1, none⟩ = some (.int .i64 b)) (h2 : w.cell? ⟨g, 2, none⟩ = some (.int .i64 c)) (h3 : w.cell? ⟨g, 3, none⟩ = some (.int .i64 d)) (h4 : w.cell? ⟨g, 4, none⟩ = some (.int .i64 p)) (h5 : w.cell? ⟨g, 5, none⟩ = some (.int .i64 q)) (h6 : w.cell? ⟨g, 6, none⟩ = some (.int .i64 r)) (h7 : w.cell? ⟨g, 7, none⟩ = some (.int .i64 s)) :
    RectsIs w.heap.size w (some ⟨g, 0, none⟩) 2 (pick a p) (pick b q) (pick c r) (pick d s) := fun i hi => by
  have hg := World.block_lt_of_cell? w ⟨g, 0, none⟩ h0
  rcases (show i = 0 ∨ i = 1 by omega) with rfl | rfl
  · exact ⟨g, 0, rfl, hg, h0, h1, h2, h3⟩
  · exact ⟨g, 0, rfl, hg, h4, h5, h6, h7⟩

theorem mn1 (a p : Int) : mn (fun _ => a) p 1 = p ↔ p ≤ a := by
  show (if a < p then a else p) = p ↔ p ≤ a
  by_cases h : a < p
  · rw [if_pos h]; omega
  · rw [if_neg h]; omega
theorem mx1 (a p : Int) : mx (fun _ => a) p 1 = p ↔ a ≤ p := by
  show (if p < a then a else p) = p ↔ a ≤ p
  by_cases h : p < a
  · rw [if_pos h]; omega
  · rw [if_neg h]; omega
theorem box_eq (a b c d p q r s : Int) : eqRB (mn (fun _ => a) p 1) (mn (fun _ => b) q 1) (mx (fun _ => c) r 1) (mx (fun _ => d) s 1) p q r s = decide (p ≤ a ∧ q ≤ b ∧ c ≤ r ∧ d ≤ s) := by
  simp only [eqRB]
  rw [Bool.eq_iff_iff]
  simp only [Bool.and_eq_true, beq_iff_eq, decide_eq_true_eq, mn1, mx1]

def allV (P Q R S : Nat → Int) (n : Nat) : Bool := (List.range n).all fun i => rvB (P i) (Q i) (R i) (S i)
theorem allV_f {P Q R S : Nat → Int} {n i : Nat} (h : i < n) (hf : rvB (P i) (Q i) (R i) (S i) = false) : allV P Q R S n = false := by
  unfold allV
  rw [List.all_eq_false]
  exact ⟨i, List.mem_range.2 h, by simp [hf]⟩
theorem allV_t {P Q R S : Nat → Int} {n : Nat} (h : ∀ i, i < n → rvB (P i) (Q i) (R i) (S i) = true) : allV P Q R S n = true := by
  unfold allV
  rw [List.all_eq_true]
  exact fun i hi => h i (List.mem_range.1 hi)
theorem allV_at {P Q R S : Nat → Int} {n i : Nat} (h : allV P Q R S n = true) (hi : i < n) : rvB (P i) (Q i) (R i) (S i) = true := by
  unfold allV at h
  exact List.all_eq_true.1 h i (List.mem_range.2 hi)

theorem allV2 (a b c d p q r s : Int) : allV (pick a p) (pick b q) (pick c r) (pick d s) 2 = (rvB a b c d && rvB p q r s) := by
  unfold allV
  rw [show List.range 2 = [0, 1] from rfl]
  simp [pick]

def hi2 (a p : Int) : Int := if a < p then p else a
def lo2 (a p : Int) : Int := if p < a then p else a
theorem ret_rect {a b c d p q r s : Int} (h0 : a = p) (h1 : b = q) (h2 : c = r) (h3 : d = s) : Ending.returned (.agg #[.int .i64 a, .int .i64 b, .int .i64 c, .int .i64 d]) = .returned (.agg #[.int .i64 p, .int .i64 q, .int .i64 r, .int .i64 s]) := by rw [h0, h1, h2, h3]
end Go.Proofs.Ytciodcknobccdaa
