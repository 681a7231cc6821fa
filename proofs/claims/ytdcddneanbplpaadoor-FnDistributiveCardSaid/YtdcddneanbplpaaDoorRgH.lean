/- The model's functions on regions. -/
import Derived.Test.YtdcddneanbplpaaDoorRgG
import Derived.Test.YtdcddneanbplpaaDoorReJ
namespace Go.Proofs.YtdcddneanbplpaaDoor
open Go.RowKit
set_option linter.unusedVariables false
set_option linter.unusedSimpArgs false
attribute [local go_sem ↓] Go.wp_at_zero Go.wp_at_succ

theorem okV_all {P Q R S : Nat → Int} {n : Nat} (h : okV P Q R S n = true) : ∀ i, i < n → rvB (P i) (Q i) (R i) (S i) = true := by
  unfold okV at h
  rw [Bool.and_eq_true] at h
  exact fun i hi => allV_at h.2 hi
theorem okR_all {P Q R S : Nat → Int} {n : Nat} (h : okR P Q R S n = true) : ∀ i, i < n → rvB (P i) (Q i) (R i) (S i) = true := by
  unfold okR at h
  rw [Bool.and_eq_true, Bool.and_eq_true] at h
  exact okV_all h.1.1

/-- How many of the first n flags are set. -/
def cntF (f : Nat → Bool) : Nat → Int
  | 0 => 0
  | n + 1 => cntF f n + if f n = true then 1 else 0
theorem cntF_bd (f : Nat → Bool) : ∀ n, 0 ≤ cntF f n ∧ cntF f n ≤ n
  | 0 => by simp [cntF]
  | n + 1 => by
    have := cntF_bd f n
    rw [cntF]; split <;> omega

set_option maxHeartbeats 8000000 in
theorem l03Count_any (g c : Nat) (f : Nat → Bool) (w : World) (hB : BitsIs w g f) : Calls Tryd.prog 88 #[.slice (some ⟨g, 0, none⟩) 6400 c] w fun e w' => e = .returned (.int .i64 (cntF f 6400)) ∧ Below w.heap.size w w' := by
  have HB := Lib.hid hB
  clear hB
  go_enter Tryd.func88, Tryd.ntmps88
  go_wp2_with fail
  go_loopw [3, 4] (fun s t wr => ∃ i : Nat, i ≤ 6400 ∧ t = .int .i64 i ∧ s = .int .i64 (cntF f i) ∧ wr = w) (fun _ t _ => 6400 - (intOf t).toNat)
  case atStart => exact ⟨0, by omega, rfl, rfl, rfl⟩
  case round =>
    obtain ⟨i, hi, rfl, rfl, rfl⟩ := hrel
    by_cases hlt : i < 6400
    · have q1 : (i : Int) < 6400 := by omega
      have q0 : (0 : Int) ≤ (i : Int) := by omega
      have hc := (HB.out i hlt).1
      obtain ⟨b0, b1⟩ := cntF_bd f i
      cases hf : f i with
      | true =>
        have hn : cntF f (i + 1) = cntF f i + 1 := by rw [cntF, if_pos hf]
        have HN := Lib.hid hn
        rw [hf] at hc
        clear hn hf
        generalize cntF f i = z at b0 b1 HN ⊢
        go_wp2_with fail
        go_roundw
        case rel => exact ⟨i + 1, by omega, by go_num, by rw [HN.out], by trivial⟩
        case measure => simp [intOf]; omega
      | false =>
        have hn : cntF f (i + 1) = cntF f i := by rw [cntF, if_neg (by simp [hf])]; omega
        have HN := Lib.hid hn
        rw [hf] at hc
        clear hn hf
        generalize cntF f i = z at b0 b1 HN ⊢
        go_wp2_with fail
        go_roundw
        case rel => exact ⟨i + 1, by omega, by go_num, by rw [HN.out], by trivial⟩
        case measure => simp [intOf]; omega
    · have q1 : ¬ (i : Int) < 6400 := by omega
      obtain rfl : i = 6400 := by omega
      obtain ⟨z, hz⟩ : ∃ z, z = cntF f 6400 := ⟨_, rfl⟩
      rw [← hz]
      have HZ := Lib.hid hz
      clear hz
      go_wp2_with fail
      go_ret
      exact ⟨ret_int HZ.out, Below.refl _ _⟩

section
variable (m : Option Addr) (len cap : Nat) (P Q R S : Nat → Int) (w : World) (hlen : len ≤ 1048576) (hR : RectsIs w.heap.size w m len P Q R S)
include hlen hR

theorem specIsRegion_any : Calls Tryd.prog 43 #[.slice m len cap] w fun e w' => e = .returned (.bool (okR P Q R S len)) ∧ Below w.heap.size w w' := by
  have HR := Lib.hid hR
  go_enter Tryd.func43, Tryd.ntmps43
  go_wp2_with (go_at_call 83; refine (l03Ok_any m len cap P Q R S _ hlen HR.out).mono ?_; rintro e w1 ⟨rfl, bw1⟩)
  go_ret
  exact ⟨rfl, bw1⟩

/-- A call that hands back a list of rectangles and true. -/
def RecRes2 (B : Nat) (l : List R4) (e : Ending) (w : World) : Prop := ∃ h c, e = .returned (.tuple #[.slice (some ⟨h, 0, none⟩) l.length c, .bool true]) ∧ RecIs B w h l

theorem specRegionOf_no (hok : okV P Q R S len = false) : Calls Tryd.prog 61 #[.slice m len cap] w fun e w' => e = .returned (.tuple #[.slice none 0 0, .bool false]) ∧ Below w.heap.size w w' := by
  have HR := Lib.hid hR
  clear hR
  go_enter Tryd.func61, Tryd.ntmps61
  go_wp2_with (go_at_call 93; refine (l03Valid_any m len cap P Q R S _ hlen HR.out).mono ?_; rintro e w1 ⟨rfl, bw1⟩; rw [hok])
  go_ret2
  exact ⟨rfl, bw1⟩
theorem specRegionOf_yes (hok : okV P Q R S len = true) : Calls Tryd.prog 61 #[.slice m len cap] w fun e w' => RecRes2 w.heap.size (canonL (covF P Q R S len)) e w' ∧ Below w.heap.size w w' := by
  have HR := Lib.hid hR
  have HALL := Lib.hid (okV_all hok)
  clear hR
  go_enter Tryd.func61, Tryd.ntmps61
  go_wp2_with (first | (go_at_call 93; refine (l03Valid_any m len cap P Q R S _ hlen HR.out).mono ?_; rintro e w1 ⟨rfl, bw1⟩; rw [hok]) | (go_at_call 89; refine (l03Bits_any m len cap P Q R S _ hlen (HR.out.ext bw1) HALL.out).mono ?_; rintro e w2 ⟨⟨g, rfl, hg0, hg⟩, bw2⟩; have HG := Lib.hid hg; clear hg) | (go_at_call 94; refine (l03Canon_any g 6400 (covF P Q R S len) _ HG.out).mono ?_; rintro e w3 ⟨⟨h, c, rfl, hI⟩, bw3⟩; have HI := Lib.hid hI; clear hI))
  go_ret2
  exact ⟨⟨h, c, rfl, ⟨Nat.le_trans (Nat.le_trans bw1.size bw2.size) HI.out.1, HI.out.2⟩⟩, (bw1.trans (bw2.mono bw1.size)).trans (bw3.mono (Nat.le_trans bw1.size bw2.size))⟩

/-- The area of a region, or -1. -/
def areaR (P Q R S : Nat → Int) (n : Nat) : Int := if okR P Q R S n = true then cntF (covF P Q R S n) 6400 else -1
theorem specRegionArea_any : Calls Tryd.prog 59 #[.slice m len cap] w fun e w' => e = .returned (.int .i64 (areaR P Q R S len)) ∧ Below w.heap.size w w' := by
  have HR := Lib.hid hR
  clear hR
  cases hok : okR P Q R S len with
  | false =>
    have HRES := Lib.hid (show areaR P Q R S len = -1 by unfold areaR; rw [if_neg (by simp [hok])])
    go_enter Tryd.func59, Tryd.ntmps59
    go_wp2_with (go_at_call 83; refine (l03Ok_any m len cap P Q R S _ hlen HR.out).mono ?_; rintro e w1 ⟨rfl, bw1⟩; rw [hok])
    go_ret
    exact ⟨ret_int HRES.out.symm, bw1⟩
  | true =>
    have HRES := Lib.hid (show areaR P Q R S len = cntF (covF P Q R S len) 6400 by unfold areaR; rw [if_pos hok])
    have HALL := Lib.hid (okR_all hok)
    go_enter Tryd.func59, Tryd.ntmps59
    go_wp2_with (first | (go_at_call 83; refine (l03Ok_any m len cap P Q R S _ hlen HR.out).mono ?_; rintro e w1 ⟨rfl, bw1⟩; rw [hok]) | (go_at_call 89; refine (l03Bits_any m len cap P Q R S _ hlen (HR.out.ext bw1) HALL.out).mono ?_; rintro e w2 ⟨⟨g, rfl, hg0, hg⟩, bw2⟩; have HG := Lib.hid hg; clear hg) | (go_at_call 88; refine (l03Count_any g 6400 (covF P Q R S len) _ HG.out).mono ?_; rintro e w3 ⟨rfl, bw3⟩))
    go_ret
    exact ⟨ret_int HRES.out.symm, (bw1.trans (bw2.mono bw1.size)).trans (bw3.mono (Nat.le_trans bw1.size bw2.size))⟩

end
end Go.Proofs.YtdcddneanbplpaaDoor
