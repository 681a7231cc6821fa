/- Rectangles: BoundingBox, the model's and the program's. Conditions: the elements' cells are in memory. -/
import Derived.Test.YtpbijohdnocleaaDoorReJ
namespace Go.Proofs.YtpbijohdnocleaaDoor
open Go.RowKit
set_option linter.unusedVariables false
set_option linter.unusedSimpArgs false
attribute [local go_sem ↓] Go.wp_at_zero Go.wp_at_succ

def bbB (P Q R S : Nat → Int) (len : Nat) : Bool := decide (0 < len ∧ len ≤ 3200) && allV P Q R S len
def bb0 (P Q R S : Nat → Int) (len : Nat) : Int := if bbB P Q R S len = true then mn (sh P) (P 0) (len - 1) else 0
def bb1 (P Q R S : Nat → Int) (len : Nat) : Int := if bbB P Q R S len = true then mn (sh Q) (Q 0) (len - 1) else 0
def bb2 (P Q R S : Nat → Int) (len : Nat) : Int := if bbB P Q R S len = true then mx (sh R) (R 0) (len - 1) else 0
def bb3 (P Q R S : Nat → Int) (len : Nat) : Int := if bbB P Q R S len = true then mx (sh S) (S 0) (len - 1) else 0
/-- What BoundingBox answers. -/
def bbV (P Q R S : Nat → Int) (len : Nat) : Value := .tuple #[.agg #[.int .i64 (bb0 P Q R S len), .int .i64 (bb1 P Q R S len), .int .i64 (bb2 P Q R S len), .int .i64 (bb3 P Q R S len)], .bool (bbB P Q R S len)]
theorem bbV_no {P Q R S : Nat → Int} {len : Nat} (h : bbB P Q R S len = false) : bbV P Q R S len = .tuple #[.agg #[.int .i64 0, .int .i64 0, .int .i64 0, .int .i64 0], .bool false] := by simp [bbV, bb0, bb1, bb2, bb3, h]
theorem bbV_yes {P Q R S : Nat → Int} {len : Nat} (h : bbB P Q R S len = true) : bbV P Q R S len = .tuple #[.agg #[.int .i64 (mn (sh P) (P 0) (len - 1)), .int .i64 (mn (sh Q) (Q 0) (len - 1)), .int .i64 (mx (sh R) (R 0) (len - 1)), .int .i64 (mx (sh S) (S 0) (len - 1))], .bool true] := by simp [bbV, bb0, bb1, bb2, bb3, h]

def rd (w : World) (g j : Nat) : Value := (w.cell? ⟨g, j, none⟩).getD (.bool false)
theorem rd_of {w : World} {g j : Nat} {v : Value} (h : w.cell? ⟨g, j, none⟩ = some v) : w.cell? ⟨g, j, none⟩ = some (rd w g j) := by
  unfold rd; rw [h]; rfl
theorem rdB {w w' : World} {g j : Nat} (h : w.cell? ⟨g, j, none⟩ = some (rd w g j)) (hb : Below w.heap.size w w') : w'.cell? ⟨g, j, none⟩ = some (rd w' g j) := rd_of (keepC hb h)
theorem rdS {w : World} {g j : Nat} (h : w.cell? ⟨g, j, none⟩ = some (rd w g j)) (p : Addr) (u : Value) : (w.setCell p u).cell? ⟨g, j, none⟩ = some (rd (w.setCell p u) g j) := by
  by_cases e : p = ⟨g, j, none⟩
  · subst e
    exact rd_of (World.cell?_setCell_same _ _ _ h)
  · exact rd_of (v := rd w g j) (by rw [World.cell?_setCell_other _ _ _ _ (by first | exact e | exact Ne.symm e)]; exact h)
theorem keepF {w1 w2 : World} {b o : Nat} (hb : Below w1.heap.size w1 w2) (hl : b < w1.heap.size) (h : w1.frozen? ⟨b, o, none⟩ = false) : w2.frozen? ⟨b, o, none⟩ = false :=
  (hb.frozen (p := ⟨b, o, none⟩) hl).trans h
theorem RectsIs.tail {B : Nat} {w : World} {b off len : Nat} {P Q R S : Nat → Int} (h : RectsIs B w (some ⟨b, off, none⟩) len P Q R S) : RectsIs B w (some ⟨b, off + 4, none⟩) (len - 1) (sh P) (sh Q) (sh R) (sh S) := fun i hi => by
  obtain ⟨b1, o1, h1, h2, h3, h4, h5, h6⟩ := h (i + 1) (by omega)
  obtain ⟨rfl, rfl⟩ : b = b1 ∧ off = o1 := by simpa using h1
  refine ⟨b, off + 4, rfl, h2, ?_, ?_, ?_, ?_⟩
  · rw [show off + 4 + i * 4 = off + (i + 1) * 4 by omega]; exact h3
  · rw [show off + 4 + i * 4 = off + (i + 1) * 4 by omega]; exact h4
  · rw [show off + 4 + i * 4 = off + (i + 1) * 4 by omega]; exact h5
  · rw [show off + 4 + i * 4 = off + (i + 1) * 4 by omega]; exact h6

end Go.Proofs.YtpbijohdnocleaaDoor
