/- The model's test of a region, and its count of flags. -/
import Derived.Test.YtciodcknobccdaaDoorRgF
namespace Go.Proofs.YtciodcknobccdaaDoor
open Go.RowKit
set_option linter.unusedVariables false
set_option linter.unusedSimpArgs false
attribute [local go_sem ↓] Go.wp_at_zero Go.wp_at_succ

theorem canonF_len (f : Nat → Bool) : ∀ (n : Nat) (y : Int), (canonF f n y).length ≤ 41 * n
  | 0, y => by simp [canonF]
  | n + 1, y => by
    have h1 := canonF_len f n (bandE f y 80 (y + 1))
    have h2 := pairsR_len y (bandE f y 80 (y + 1)) (runsL f y)
    have h3 : (runsL f y).length ≤ 81 := runsTo_len f y 81
    rw [canonF]
    split
    · rw [List.length_append]; omega
    · simp
theorem canonL_len (f : Nat → Bool) : (canonL f).length ≤ 3280 := canonF_len f 80 (-40)

set_option maxHeartbeats 8000000 in
set_option maxRecDepth 100000 in
theorem l03Ok_any (m : Option Addr) (len cap : Nat) (P Q R S : Nat → Int) (w : World) (hlen : len ≤ 1048576) (hR : RectsIs w.heap.size w m len P Q R S) :
    Calls Tryd.prog 71 #[.slice m len cap] w fun e w' => e = .returned (.bool (okR P Q R S len)) ∧ Below w.heap.size w w' := by
  have HR := Lib.hid hR
  clear hR
  cases hv : okV P Q R S len with
  | false =>
    have hres : okR P Q R S len = false := by unfold okR; rw [hv]; rfl
    have HRES := Lib.hid hres
    clear hres
    go_enter Tryd.func71, Tryd.ntmps71
    go_wp2_with (go_at_call 101; refine (l03Valid_any m len cap P Q R S _ hlen HR.out).mono ?_; rintro e w1 ⟨rfl, bw1⟩; rw [hv])
    go_ret
    exact ⟨ret_bool HRES.out.symm, bw1⟩
  | true =>
    have hall : ∀ i, i < len → rvB (P i) (Q i) (R i) (S i) = true := by
      unfold okV at hv
      rw [Bool.and_eq_true] at hv
      exact fun i hi => allV_at hv.2 hi
    have hl3 : len ≤ 3200 := by
      unfold okV at hv
      rw [Bool.and_eq_true] at hv
      exact of_decide_eq_true hv.1
    have hres : okR P Q R S len = (decide (sumA P Q R S len ≤ 6400) && decide (canonL (covF P Q R S len) = listR P Q R S len)) := by unfold okR; rw [hv]; rfl
    have HRES := Lib.hid hres
    have HALL := Lib.hid hall
    clear hres hall
    go_enter Tryd.func71, Tryd.ntmps71
    go_wp2_with (go_at_call 101; refine (l03Valid_any m len cap P Q R S _ hlen HR.out).mono ?_; rintro e w1 ⟨rfl, bw1⟩; rw [hv])
    go_loopw [3, 4] (fun s t wr => ∃ i : Nat, i ≤ len ∧ t = .int .i64 i ∧ s = .int .i64 (sumA P Q R S i) ∧ Below w.heap.size w wr) (fun _ t _ => len - (intOf t).toNat)
    case atStart => exact ⟨0, by omega, rfl, rfl, bw1⟩
    case round =>
      obtain ⟨i, hi, rfl, rfl, hW⟩ := hrel
      by_cases hlt : i < len
      · obtain ⟨b1, o1, rfl, hb1, c0, c1, c2, c3⟩ := HR.out i hlt
        have q1 : (i : Int) < (len : Int) := by omega
        have q0 : (0 : Int) ≤ (i : Int) := by omega
        have d0 := keepC hW c0
        have d1 := keepC hW c1
        have d2 := keepC hW c2
        have d3 := keepC hW c3
        clear c0 c1 c2 c3
        have hs1 := sumA_bd P Q R S i (fun j hj => HALL.out j (by omega))
        have hs2 := areaV_bd (HALL.out i hlt)
        have hs3 : sumA P Q R S (i + 1) = sumA P Q R S i + areaV (P i) (Q i) (R i) (S i) := rfl
        have HS3 := Lib.hid hs3
        clear hs3
        generalize hz : sumA P Q R S i = z at hs1 HS3 ⊢
        generalize hu : areaV (P i) (Q i) (R i) (S i) = u at hs2 HS3
        obtain ⟨z0, z1⟩ := hs1
        obtain ⟨u0, u1⟩ := hs2
        have HU := Lib.hid hu
        clear hz hu
        go_wp2_with (go_at_call 102; refine (specRectArea_any _ _ _ _ _).mono ?_; rintro e w2 ⟨rfl, bw2⟩; rw [HU.out])
        go_roundw
        case rel => exact ⟨i + 1, by omega, by go_num, by rw [HS3.out], by (repeat (first | (with_reducible exact Below.refl _ _) | (with_reducible refine Ext.drewN ?_ _) | (with_reducible refine Below.drew ?_) | (with_reducible refine Ext.alloc ?_ _) | (with_reducible refine Ext.setCell ?_ (by simp; try omega) _) | (with_reducible refine Ext.trans ?_ (by assumption)) | (with_reducible assumption) | exact Below.refl _ _))⟩
        case measure => simp [intOf]; omega
      · have q1 : ¬ (i : Int) < (len : Int) := by omega
        obtain rfl : i = len := by omega
        by_cases ha : sumA P Q R S i ≤ 6400
        · have hcl := canonL_len (covF P Q R S i)
          have hres2 : okR P Q R S i = decide (canonL (covF P Q R S i) = listR P Q R S i) := by rw [HRES.out, decide_eq_true ha]; rfl
          have HR2 := Lib.hid hres2
          clear hres2
          generalize sumA P Q R S i = z at ha ⊢
          go_wp2_with (first | (go_at_call 105; refine (l03Bits_any m i cap P Q R S _ hlen (HR.out.ext hW) HALL.out).mono ?_; rintro e w2 ⟨⟨g, rfl, hg0, hg⟩, bw2⟩; have HG := Lib.hid hg; clear hg) | (go_at_call 104; refine (l03Canon_any g 6400 (covF P Q R S i) _ HG.out).mono ?_; rintro e w3 ⟨⟨h, c, rfl, hI⟩, bw3⟩; have HI := Lib.hid hI; clear hI; have B3 : Below w.heap.size w w3 := (hW.trans (bw2.mono hW.size)).trans (bw3.mono (Nat.le_trans hW.size bw2.size))) | (go_at_call 103; refine (l03Same_any _ h c (canonL (covF P Q R S i)) m i cap P Q R S _ hlen (by omega) HI.out (HR.out.ext B3)).mono ?_; rintro e w4 ⟨rfl, bw4⟩))
          go_ret
          exact ⟨ret_bool HR2.out.symm, B3.trans (bw4.mono B3.size)⟩
        · have hres2 : okR P Q R S i = false := by rw [HRES.out, decide_eq_false ha]; rfl
          have HR2 := Lib.hid hres2
          clear hres2
          generalize sumA P Q R S i = z at ha ⊢
          go_wp2_with fail
          go_ret
          exact ⟨ret_bool HR2.out.symm, hW⟩
end Go.Proofs.YtciodcknobccdaaDoor
