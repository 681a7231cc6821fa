/- Contracts of the model's moves of points and cells, of the conversions and comparisons of the laws. -/
import Derived.Test.YtciodcknobccdaaTrB
namespace Go.Proofs.Ytciodcknobccdaa
open Go.RowKit
set_option linter.unusedVariables false
set_option linter.unusedSimpArgs false

def onB (x y : Int) : Bool := inB x (-40) 40 && inB y (-40) 40
def ucB (x y : Int) : Bool := inB x (-40) 39 && inB y (-40) 39
theorem onB_t {x y : Int} (h : onB x y = true) : (-40 ≤ x ∧ x ≤ 40) ∧ (-40 ≤ y ∧ y ≤ 40) := by
  unfold onB at h; simp only [Bool.and_eq_true] at h; exact ⟨inB_t h.1, inB_t h.2⟩
theorem ucB_t {x y : Int} (h : ucB x y = true) : (-40 ≤ x ∧ x ≤ 39) ∧ (-40 ≤ y ∧ y ≤ 39) := by
  unfold ucB at h; simp only [Bool.and_eq_true] at h; exact ⟨inB_t h.1, inB_t h.2⟩

theorem t_bd (o x y B : Int) (hx : -B ≤ x) (hx' : x ≤ B) (hy : -B ≤ y) (hy' : y ≤ B) : (-B ≤ tX o x y ∧ tX o x y ≤ B) ∧ (-B ≤ tY o x y ∧ tY o x y ≤ B) := by
  unfold tX tY
  refine ⟨?_, ?_⟩ <;> (repeat' split) <;> omega

def eqPB (a b c d : Int) : Bool := a == c && b == d
def eqTB (a b c d e f : Int) : Bool := a == d && b == e && c == f
theorem eqTransform_any (a b c d e f : Int) (w : World) : Calls Try.prog 7 #[.agg #[.int .i64 a, .int .i64 b, .int .i64 c], .agg #[.int .i64 d, .int .i64 e, .int .i64 f]] w fun e' w' => e' = .returned (.bool (eqTB a b c d e f)) ∧ Below w.heap.size w w' := by
  by_cases h1 : a = d
  · by_cases h2 : b = e
    · by_cases h3 : c = f
      all_goals
        go_enter Try.func7, Try.ntmps7
        go_wp2
        go_ret
        exact ⟨ret_bool (by simp [eqTB, h1, h2, h3]), by go_grown⟩
    · go_enter Try.func7, Try.ntmps7
      go_wp2
      go_ret
      exact ⟨ret_bool (by simp [eqTB, h1, h2]), by go_grown⟩
  · go_enter Try.func7, Try.ntmps7
    go_wp2
    go_ret
    exact ⟨ret_bool (by simp [eqTB, h1]), by go_grown⟩

def mpB (o x y a b : Int) : Bool := vldB o x y && onB a b
def mpX (o x y a b : Int) : Int := if mpB o x y a b = true then tX o a b + x else 0
def mpY (o x y a b : Int) : Int := if mpB o x y a b = true then tY o a b + y else 0
/-- What MovePoint answers. -/
def mpV (o x y a b : Int) : Value := .tuple #[.agg #[.int .i64 (mpX o x y a b), .int .i64 (mpY o x y a b)], .bool (mpB o x y a b)]
theorem mpV_yes {o x y a b : Int} (h1 : vldB o x y = true) (h2 : onB a b = true) : mpV o x y a b = .tuple #[.agg #[.int .i64 (tX o a b + x), .int .i64 (tY o a b + y)], .bool true] := by
  simp [mpV, mpX, mpY, mpB, h1, h2]
theorem mpV_no {o x y a b : Int} (h : mpB o x y a b = false) : mpV o x y a b = .tuple #[.agg #[.int .i64 0, .int .i64 0], .bool false] := by
  simp [mpV, mpX, mpY, h]
end Go.Proofs.Ytciodcknobccdaa
