/- The program's region of merged operands. Conditions: the elements' cells are in memory; the variables that regions read hold their tables. -/
import Derived.Test.YtciodcknobccdaaDoorSbC
import Derived.Test.YtciodcknobccdaaDoorRiY
import Derived.Test.YtciodcknobccdaaDoorRgN
namespace Go.Proofs.YtciodcknobccdaaDoor
open Go.RowKit Go.Shelf
set_option linter.unusedVariables false
set_option linter.unusedSimpArgs false
attribute [local go_sem] Oper.semAt_some

/-- What mergedRegion answers. -/
def mrL (op : Nat) (P Q R S : Nat → Int) (n : Nat) (n' : Nat → Nat) (P' Q' R' S' : Nat → Nat → Int) (k : Nat) : List R4 := if (okR P Q R S n && okA n' P' Q' R' S' k) = true then canonL (mgA op (covF P Q R S n) n' P' Q' R' S' k) else []
theorem mrL_canon (op : Nat) (P Q R S : Nat → Int) (n : Nat) (n' : Nat → Nat) (P' Q' R' S' : Nat → Nat → Int) (k : Nat) : canonL (if (okR P Q R S n && okA n' P' Q' R' S' k) = true then mgA op (covF P Q R S n) n' P' Q' R' S' k else fun _ => false) = mrL op P Q R S n n' P' Q' R' S' k := by
  unfold mrL
  split
  · rfl
  · exact canonL_none

/-- A call that hands back list l in memory of its own, with its capacity. -/
def LOwnC (B : Nat) (l : List R4) (e : Ending) (w : World) : Prop := ∃ a c, e = .returned (.slice a l.length c) ∧ l.length ≤ c ∧ OwnsL B w a l
theorem LOwnC.weak {B : Nat} {l : List R4} {e : Ending} {w : World} (h : LOwnC B l e w) : LOwn B l e w := by
  obtain ⟨a, c, h1, _, h2⟩ := h
  exact ⟨a, c, h1, h2⟩
theorem capC {w : World} {B n c : Nat} {a : Option Addr} {xs : List Value} (h : w.ownsRow B 142 4 (.slice a n c) n xs) : n ≤ c := by
  rcases h.2 with ⟨e, h0⟩ | ⟨g, cap, cur, e, _, _, h3, _⟩
  · omega
  · cases e
    exact h3
theorem listsOne {w : World} {b : Nat} {a : Option Addr} {n c : Nat} {P Q R S : Nat → Int} (hc : w.cell? ⟨b, 0, none⟩ = some (.slice a n c)) (hn : n ≤ 1048576) (hcap : n ≤ c) (hR : RectsIs w.heap.size w a n P Q R S) :
    ListsIs w.heap.size w (some ⟨b, 0, none⟩) 1 (fun _ => a) (fun _ => n) (fun _ => c) (fun _ => P) (fun _ => Q) (fun _ => R) (fun _ => S) := fun i hi => by
  obtain rfl : i = 0 := by omega
  exact ⟨⟨b, 0, rfl, World.block_lt_of_cell? w ⟨b, 0, none⟩ hc, hc⟩, hn, hcap, hR⟩

theorem mr14_op (P Q R S : Nat → Int) (n : Nat) (A B C D : Nat → Int) (k : Nat) : mrL 14 P Q R S n (fun _ => k) (fun _ => A) (fun _ => B) (fun _ => C) (fun _ => D) 1 = opL 14 P Q R S n A B C D k := by
  unfold mrL opL
  rw [show okA (fun _ => k) (fun _ => A) (fun _ => B) (fun _ => C) (fun _ => D) 1 = okR A B C D k by rw [okA, okA, Bool.true_and]]
  rfl
theorem mr8_op (P Q R S : Nat → Int) (n : Nat) (A B C D : Nat → Int) (k : Nat) : mrL 8 P Q R S n (fun _ => k) (fun _ => A) (fun _ => B) (fun _ => C) (fun _ => D) 1 = opL 8 P Q R S n A B C D k := by
  unfold mrL opL
  rw [show okA (fun _ => k) (fun _ => A) (fun _ => B) (fun _ => C) (fun _ => D) 1 = okR A B C D k by rw [okA, okA, Bool.true_and]]
  rfl
theorem mr4_op (P Q R S : Nat → Int) (n : Nat) (A B C D : Nat → Int) (k : Nat) : mrL 4 P Q R S n (fun _ => k) (fun _ => A) (fun _ => B) (fun _ => C) (fun _ => D) 1 = opL 4 P Q R S n A B C D k := by
  unfold mrL opL
  rw [show okA (fun _ => k) (fun _ => A) (fun _ => B) (fun _ => C) (fun _ => D) 1 = okR A B C D k by rw [okA, okA, Bool.true_and]]
  rfl
theorem mr6_op (P Q R S : Nat → Int) (n : Nat) (A B C D : Nat → Int) (k : Nat) : mrL 6 P Q R S n (fun _ => k) (fun _ => A) (fun _ => B) (fun _ => C) (fun _ => D) 1 = opL 6 P Q R S n A B C D k := by
  unfold mrL opL
  rw [show okA (fun _ => k) (fun _ => A) (fun _ => B) (fun _ => C) (fun _ => D) 1 = okR A B C D k by rw [okA, okA, Bool.true_and]]
  rfl
end Go.Proofs.YtciodcknobccdaaDoor

/- Marks over rows of rectangles, from a great number on. Condition: the row is in memory. -/
namespace Go.Proofs.YtciodcknobccdaaDoor
open Go.RowKit
set_option linter.unusedVariables false
set_option linter.unusedSimpArgs false
attribute [local go_sem ↓] Go.wp_at_zero Go.wp_at_succ

end Go.Proofs.YtciodcknobccdaaDoor
