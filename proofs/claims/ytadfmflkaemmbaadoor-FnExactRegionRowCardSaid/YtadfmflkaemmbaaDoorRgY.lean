/- The canonical list is the only one of its form: bands with runs that no one joins. No program's run in it. -/
import Derived.Test.YtadfmflkaemmbaaDoorRgX
namespace Go.Proofs.YtadfmflkaemmbaaDoor
open Go.RowKit
set_option linter.unusedVariables false
set_option linter.unusedSimpArgs false

/-- A band: its first row, the row behind its last one, its runs. -/
structure Band where
  b : Int
  d : Int
  rs : List Int
def bandsR : List Band → List R4
  | [] => []
  | B :: L => pairsR B.b B.d B.rs ++ bandsR L
/-- From row y0 on these are the bands of set f. -/
def BandsOK (f : Nat → Bool) : Int → List Band → Prop
  | y0, [] => ∀ y, y0 ≤ y → y < 40 → runsL f y = []
  | y0, B :: L => y0 ≤ B.b ∧ B.b < B.d ∧ B.d ≤ 40 ∧ B.rs ≠ [] ∧ (∀ y, y0 ≤ y → y < B.b → runsL f y = []) ∧ (∀ y, B.b ≤ y → y < B.d → runsL f y = B.rs) ∧ (B.d < 40 → runsL f B.d ≠ B.rs) ∧ BandsOK f B.d L
theorem bandE_exact (f : Nat → Bool) (y t : Int) (ht : t ≤ 40) (hs : t < 40 → runsL f t ≠ runsL f y) : ∀ (n : Nat) (e : Int), e ≤ t → t - e ≤ n → (∀ z, e ≤ z → z < t → runsL f z = runsL f y) → bandE f y n e = t
  | 0, e, h1, h2, h => by rw [bandE]; omega
  | n + 1, e, h1, h2, h => by
    rw [bandE]
    by_cases he : e < t
    · rw [if_pos ⟨by omega, h e (Int.le_refl _) he⟩]
      exact bandE_exact f y t ht hs n (e + 1) (by omega) (by omega) fun z z1 z2 => h z (by omega) z2
    · obtain rfl : e = t := by omega
      rw [if_neg (fun k => hs k.1 k.2)]
theorem canonF_bands (f : Nat → Bool) : ∀ (n : Nat) (y0 : Int) (L : List Band), -40 ≤ y0 → 40 - y0 ≤ n → BandsOK f y0 L → canonF f n y0 = bandsR L
  | 0, y0, [], _, _, _ => rfl
  | 0, y0, B :: L, h0, hn, h => by
    obtain ⟨h1, h2, h3, _⟩ := h
    omega
  | n + 1, y0, [], h0, hn, h => by
    rw [canonF]
    split
    · rename_i hy
      have hge := bandE_ge f y0 80 (y0 + 1)
      rw [h y0 (Int.le_refl _) hy]
      rw [canonF_bands f n _ [] (by omega) (by omega) (fun y y1 y2 => h y (by omega) y2)]
      rfl
    · rfl
  | n + 1, y0, B :: L, h0, hn, h => by
    obtain ⟨h1, h2, h3, h4, h5, h6, h7, h8⟩ := h
    rw [canonF, if_pos (by omega)]
    by_cases hb : y0 = B.b
    · subst hb
      have hr := h6 B.b (Int.le_refl _) h2
      have he : bandE f B.b 80 (B.b + 1) = B.d := by
        refine bandE_exact f B.b B.d h3 (fun hd => by rw [hr]; exact h7 hd) 80 _ (by omega) (by omega) fun z z1 z2 => ?_
        rw [h6 z (by omega) z2, hr]
      rw [he, hr, canonF_bands f n B.d L (by omega) (by omega) h8]
      rfl
    · have hr := h5 y0 (Int.le_refl _) (by omega)
      have he : bandE f y0 80 (y0 + 1) = B.b := by
        refine bandE_exact f y0 B.b (by omega) (fun hd => by rw [hr, h6 B.b (Int.le_refl _) h2]; exact h4) 80 _ (by omega) (by omega) fun z z1 z2 => ?_
        rw [h5 z (by omega) z2, hr]
      rw [he, hr, canonF_bands f n B.b (B :: L) (by omega) (by omega) ⟨Int.le_refl _, h2, h3, h4, fun y y1 y2 => by omega, h6, h7, h8⟩]
      rfl
/-- A list of bands of set f is its region. -/
theorem canonL_bands (f : Nat → Bool) (L : List Band) (h : BandsOK f (-40) L) : canonL f = bandsR L := canonF_bands f 80 (-40) L (by omega) (by omega) h
/-- Every set has bands. -/
theorem bands_ex (f : Nat → Bool) : ∀ (n : Nat) (y0 : Int), 40 - y0 ≤ n → -40 ≤ y0 → ∃ L, BandsOK f y0 L
  | 0, y0, hn, h0 => ⟨[], fun y y1 y2 => by omega⟩
  | n + 1, y0, hn, h0 => by
    by_cases hy : y0 < 40
    · have hge := bandE_ge f y0 80 (y0 + 1)
      have hle := bandE_le f y0 80 (y0 + 1) (by omega)
      have hrun := bandE_runs f y0 80 (y0 + 1) (fun z z1 z2 => by rw [show z = y0 by omega])
      obtain ⟨L, hL⟩ := bands_ex f n (bandE f y0 80 (y0 + 1)) (by omega) (by omega)
      have hstop : bandE f y0 80 (y0 + 1) < 40 → runsL f (bandE f y0 80 (y0 + 1)) ≠ runsL f y0 := bandE_max f y0 80 (y0 + 1) (by omega)
      by_cases hr : runsL f y0 = []
      · match L, hL with
        | [], hL => exact ⟨[], fun y y1 y2 => by
            by_cases hz : y < bandE f y0 80 (y0 + 1)
            · rw [hrun y y1 hz, hr]
            · exact hL y (by omega) y2⟩
        | B :: L, ⟨k1, k2, k3, k4, k5, k6, k7, k8⟩ => exact ⟨B :: L, by omega, k2, k3, k4, fun y y1 y2 => by
            by_cases hz : y < bandE f y0 80 (y0 + 1)
            · rw [hrun y y1 hz, hr]
            · exact k5 y (by omega) y2, k6, k7, k8⟩
      · exact ⟨⟨y0, bandE f y0 80 (y0 + 1), runsL f y0⟩ :: L, Int.le_refl _, by simp; omega, hle, hr, fun y y1 y2 => by simp at y2; omega, fun y y1 y2 => hrun y y1 y2, hstop, hL⟩
    · exact ⟨[], fun y y1 y2 => by omega⟩
where
  bandE_max (f : Nat → Bool) (y : Int) : ∀ (n : Nat) (e : Int), 40 - e ≤ n → bandE f y n e < 40 → runsL f (bandE f y n e) ≠ runsL f y
  | 0, e, hn, h => by rw [bandE] at h; omega
  | n + 1, e, hn, h => by
    rw [bandE] at h ⊢
    split
    · rename_i hc
      rw [if_pos hc] at h
      exact bandE_max f y n (e + 1) (by omega) h
    · rename_i hc
      rw [if_neg hc] at h
      exact fun k => hc ⟨h, k⟩
end Go.Proofs.YtadfmflkaemmbaaDoor
