/- The model's functions on regions. -/
import Derived.Test.YtciodcknobccdaaDoorRgG
import Derived.Test.YtciodcknobccdaaDoorReJ
namespace Go.Proofs.YtciodcknobccdaaDoor
open Go.RowKit
set_option linter.unusedVariables false
set_option linter.unusedSimpArgs false
attribute [local go_sem ↓] Go.wp_at_zero Go.wp_at_succ

theorem okV_all {P Q R S : Nat → Int} {n : Nat} (h : okV P Q R S n = true) : ∀ i, i < n → rvB (P i) (Q i) (R i) (S i) = true := by
  unfold okV at h
  rw [Bool.and_eq_true] at h
  exact fun i hi => allV_at h.2 hi
theorem okR_all {P Q R S : Nat → Int} {n : Nat} (h : okR P Q R S n = true) : ∀ i, i < n → rvB (P i) (Q i) (R i) (S i) = true := by
  unfold okR at h
  rw [Bool.and_eq_true, Bool.and_eq_true] at h
  exact okV_all h.1.1

/-- How many of the first n flags are set. -/
def cntF (f : Nat → Bool) : Nat → Int
  | 0 => 0
  | n + 1 => cntF f n + if f n = true then 1 else 0
theorem cntF_bd (f : Nat → Bool) : ∀ n, 0 ≤ cntF f n ∧ cntF f n ≤ n
  | 0 => by simp [cntF]
  | n + 1 => by
    have := cntF_bd f n
    rw [cntF]; split <;> omega

section
variable (m : Option Addr) (len cap : Nat) (P Q R S : Nat → Int) (w : World) (hlen : len ≤ 1048576) (hR : RectsIs w.heap.size w m len P Q R S)
include hlen hR

/-- A call that hands back a list of rectangles and true. -/
def RecRes2 (B : Nat) (l : List R4) (e : Ending) (w : World) : Prop := ∃ h c, e = .returned (.tuple #[.slice (some ⟨h, 0, none⟩) l.length c, .bool true]) ∧ RecIs B w h l

/-- The area of a region, or -1. -/
def areaR (P Q R S : Nat → Int) (n : Nat) : Int := if okR P Q R S n = true then cntF (covF P Q R S n) 6400 else -1
end
end Go.Proofs.YtciodcknobccdaaDoor
