/- The canonical list of a set and its rows, bands and cells. No run, no condition. -/
import Derived.Test.YtciodcknobccdaaDoorRgH
namespace Go.Proofs.YtciodcknobccdaaDoor
open Go.RowKit
set_option linter.unusedVariables false
set_option linter.unusedSimpArgs false

/-- The parity of a row's changes so far says whether the cell is set. -/
theorem runsTo_par (f : Nat → Bool) (y : Int) : ∀ k : Nat, k ≤ 81 → (hasB f (-40 + (k : Int) - 1) y = true ↔ (runsTo f y k).length % 2 = 1)
  | 0, _ => by
    rw [hasB_out (by omega)]; simp [runsTo]
  | k + 1, hk => by
    have ih := runsTo_par f y k (by omega)
    rw [show (-40 + ((k + 1 : Nat) : Int) - 1) = -40 + (k : Int) by omega]
    cases hc : chg f (-40 + (k : Int)) y with
    | true =>
      rw [runsTo_yes hc, List.length_append]
      unfold chg at hc
      cases h1 : hasB f (-40 + (k : Int)) y <;> cases h2 : hasB f (-40 + (k : Int) - 1) y <;> rw [h1, h2] at hc <;> rw [h2] at ih <;> simp at hc ih ⊢ <;> omega
    | false =>
      rw [runsTo_no hc]
      unfold chg at hc
      cases h1 : hasB f (-40 + (k : Int)) y <;> cases h2 : hasB f (-40 + (k : Int) - 1) y <;> rw [h1, h2] at hc <;> rw [h2] at ih <;> simp at hc ih ⊢ <;> omega
theorem runsL_even (f : Nat → Bool) (y : Int) : (runsL f y).length % 2 = 0 := by
  have h := runsTo_par f y 81 (Nat.le_refl _)
  rw [hasB_out (by omega)] at h
  have : ¬ (runsTo f y 81).length % 2 = 1 := fun e => by have := h.2 e; cases this
  unfold runsL; omega
/-- The ends of the rectangles of list l that meet row y. -/
def rowL (l : List R4) (y : Int) : List Int := l.flatMap fun r => if r.b ≤ y ∧ y < r.d then [r.a, r.c] else []
theorem rowL_append (l l' : List R4) (y : Int) : rowL (l ++ l') y = rowL l y ++ rowL l' y := by unfold rowL; rw [List.flatMap_append]
theorem rowL_pairs_in (b d y : Int) (h : b ≤ y ∧ y < d) : ∀ l : List Int, l.length % 2 = 0 → rowL (pairsR b d l) y = l
  | [], _ => rfl
  | [a], h' => by simp at h'
  | a :: c :: l, h' => by
    have ih := rowL_pairs_in b d y h l (by simp at h'; omega)
    unfold rowL at ih ⊢
    rw [pairsR, List.flatMap_cons, ih]
    simp [h]
theorem rowL_pairs_out (b d y : Int) (h : ¬ (b ≤ y ∧ y < d)) : ∀ l : List Int, rowL (pairsR b d l) y = []
  | [] => rfl
  | [a] => rfl
  | a :: c :: l => by
    have ih := rowL_pairs_out b d y h l
    unfold rowL at ih ⊢
    rw [pairsR, List.flatMap_cons, ih, if_neg h]; rfl
theorem bandE_runs (f : Nat → Bool) (y : Int) : ∀ (n : Nat) (e : Int), (∀ z, y ≤ z → z < e → runsL f z = runsL f y) → ∀ z, y ≤ z → z < bandE f y n e → runsL f z = runsL f y
  | 0, e, h => h
  | n + 1, e, h => by
    rw [bandE]
    split
    · rename_i h'
      refine bandE_runs f y n (e + 1) fun z z1 z2 => ?_
      by_cases hz : z < e
      · exact h z z1 hz
      · obtain rfl : z = e := by omega
        exact h'.2
    · exact h
theorem canonF_low (f : Nat → Bool) (y : Int) : ∀ (n : Nat) (b : Int), y < b → rowL (canonF f n b) y = []
  | 0, b, _ => rfl
  | n + 1, b, h => by
    rw [canonF]
    split
    · have := bandE_ge f b 80 (b + 1)
      rw [rowL_append, rowL_pairs_out _ _ _ (by omega), canonF_low f y n _ (by omega)]; rfl
    · rfl
theorem canonF_row (f : Nat → Bool) (y : Int) (hy : y < 40) : ∀ (n : Nat) (b : Int), b ≤ y → 40 - b ≤ n → rowL (canonF f n b) y = runsL f y
  | 0, b, h, hn => by omega
  | n + 1, b, h, hn => by
    have hge := bandE_ge f b 80 (b + 1)
    rw [canonF, if_pos (by omega), rowL_append]
    by_cases hb : y < bandE f b 80 (b + 1)
    · rw [rowL_pairs_in _ _ _ ⟨h, hb⟩ _ (runsL_even f b), canonF_low f y n _ hb, List.append_nil]
      exact (bandE_runs f b 80 (b + 1) (fun z z1 z2 => by rw [show z = b by omega]) y h hb).symm
    · rw [rowL_pairs_out _ _ _ (by omega), canonF_row f y hy n _ (by omega) (by omega)]; rfl
/-- The canonical list's rectangles that meet a row are the row's runs. -/
theorem canonL_row (f : Nat → Bool) (y : Int) (h1 : -40 ≤ y) (h2 : y < 40) : rowL (canonL f) y = runsL f y := canonF_row f y h2 80 (-40) h1 (by omega)
theorem rowL_out (f : Nat → Bool) (y : Int) (h : y < -40) : rowL (canonL f) y = [] := canonF_low f y 80 (-40) (by omega)
end Go.Proofs.YtciodcknobccdaaDoor

namespace Go.Proofs.YtciodcknobccdaaDoor
open Go.RowKit
set_option linter.unusedVariables false
set_option linter.unusedSimpArgs false

/-- Does x lie in one of the runs, whose starts and ends the list holds? -/
def inP (x : Int) : List Int → Bool
  | a :: c :: l => (decide (a ≤ x) && decide (x < c)) || inP x l
  | [a] => decide (a ≤ x)
  | [] => false
theorem inP_all (v : Int) : ∀ l : List Int, (∀ u, u ∈ l → u ≤ v) → inP v l = decide (l.length % 2 = 1)
  | [], _ => rfl
  | [a], h => by have := h a (by simp); simp [inP, this]
  | a :: c :: l, h => by
    have ih := inP_all v l (fun u hu => h u (by simp [hu]))
    have := h c (by simp)
    rw [inP, ih, show decide (v < c) = false by simp; omega]
    rw [Bool.and_false, Bool.false_or]
    exact decide_eq_decide.2 (by simp only [List.length_cons]; omega)
theorem inP_snoc (x v : Int) (h : x < v) : ∀ l : List Int, inP x (l ++ [v]) = inP x l
  | [] => by simp [inP]; omega
  | [a] => by simp [inP, h]
  | a :: c :: l => by
    have ih := inP_snoc x v h l
    rw [List.cons_append, List.cons_append, inP, inP, ih]
theorem inP_runsTo (f : Nat → Bool) (y : Int) : ∀ (k : Nat), k ≤ 81 → ∀ x : Int, -40 ≤ x → x < -40 + k → inP x (runsTo f y k) = hasB f x y
  | 0, _, x, h1, h2 => by omega
  | k + 1, hk, x, h1, h2 => by
    have ih := inP_runsTo f y k (by omega)
    by_cases hx : x < -40 + (k : Int)
    · rw [← ih x h1 hx, runsTo]
      split
      · exact inP_snoc _ _ hx _
      · rfl
    · obtain rfl : x = -40 + (k : Int) := by omega
      rw [inP_all _ _ (fun u hu => by have := runsTo_mem f y (k + 1) u hu; omega)]
      have hp := runsTo_par f y (k + 1) hk
      rw [show (-40 + ((k + 1 : Nat) : Int) - 1) = -40 + (k : Int) by omega] at hp
      cases hb : hasB f (-40 + (k : Int)) y with
      | true => exact decide_eq_true (hp.1 hb)
      | false => exact decide_eq_false (fun e => by rw [hp.2 e] at hb; cases hb)
theorem inP_runs (f : Nat → Bool) (x y : Int) (h1 : -40 ≤ x) (h2 : x ≤ 39) : inP x (runsL f y) = hasB f x y := inP_runsTo f y 81 (Nat.le_refl _) x h1 (by omega)
/-- Does a rectangle of the list hold the cell? -/
def inR (l : List R4) (x y : Int) : Bool := l.any fun r => decide (r.a ≤ x) && decide (x < r.c) && decide (r.b ≤ y) && decide (y < r.d)
theorem inP_rowL (x y : Int) : ∀ l : List R4, inP x (rowL l y) = inR l x y
  | [] => rfl
  | r :: l => by
    have ih := inP_rowL x y l
    unfold rowL inR at ih ⊢
    rw [List.flatMap_cons, List.any_cons, ← ih]
    split
    · rename_i h
      rw [List.cons_append, List.cons_append, List.nil_append, inP, decide_eq_true h.1, decide_eq_true h.2]
      simp
    · rename_i h
      have : (decide (r.b ≤ y) && decide (y < r.d)) = false := by
        by_cases h1 : r.b ≤ y
        · rw [decide_eq_false (fun e => h ⟨h1, e⟩), Bool.and_false]
        · rw [decide_eq_false h1, Bool.false_and]
      rw [Bool.and_assoc, this]
      simp
theorem inR_canonL (f : Nat → Bool) (x y : Int) (h : (-40 ≤ x ∧ x ≤ 39) ∧ (-40 ≤ y ∧ y ≤ 39)) : inR (canonL f) x y = hasB f x y := by
  rw [← inP_rowL, canonL_row f y h.2.1 (by omega), inP_runs f x y h.1.1 h.1.2]
theorem covB_listR (P Q R S : Nat → Int) (x y : Int) : ∀ n, inR (listR P Q R S n) x y = covB P Q R S x y n
  | 0 => rfl
  | n + 1 => by
    have ih := covB_listR P Q R S x y n
    unfold inR listR at ih ⊢
    rw [List.range_succ, List.map_append, List.any_append, ih, covB]
    simp
theorem listR_pA : ∀ l : List R4, listR (pA l) (pB l) (pC l) (pD l) l.length = l := fun l => by
  refine ext_R4 (by simp [listR]) fun j hj => ?_
  rw [listR_len] at hj
  rw [listR_getD _ _ _ _ _ _ hj]
  rfl
theorem covB_pA (l : List R4) (x y : Int) : covB (pA l) (pB l) (pC l) (pD l) x y l.length = inR l x y := by
  rw [← covB_listR, listR_pA]
/-- The canonical list of a set covers the set. -/
theorem cov_canonL (f : Nat → Bool) (x y : Int) (h : (-40 ≤ x ∧ x ≤ 39) ∧ (-40 ≤ y ∧ y ≤ 39)) : covF (pA (canonL f)) (pB (canonL f)) (pC (canonL f)) (pD (canonL f)) (canonL f).length (cIx x y) = f (cIx x y) := by
  rw [covF_at _ _ _ _ _ h.1.1 h.1.2 h.2.1 h.2.2, covB_pA, inR_canonL f x y h, hasB_in h]
theorem cIx_of {k : Nat} (hk : k < 6400) : ∃ x y : Int, ((-40 ≤ x ∧ x ≤ 39) ∧ (-40 ≤ y ∧ y ≤ 39)) ∧ k = cIx x y := by
  refine ⟨(k % 80 : Nat) - 40, (k / 80 : Nat) - 40, by omega, ?_⟩
  unfold cIx; omega
theorem cov_canonL_all (f : Nat → Bool) {k : Nat} (hk : k < 6400) : covF (pA (canonL f)) (pB (canonL f)) (pC (canonL f)) (pD (canonL f)) (canonL f).length k = f k := by
  obtain ⟨x, y, h, rfl⟩ := cIx_of hk
  exact cov_canonL f x y h
/-- Equal cells, equal lists. -/
theorem hasB_congr {f g : Nat → Bool} (h : ∀ k, k < 6400 → f k = g k) (x y : Int) : hasB f x y = hasB g x y := by
  unfold hasB
  cases hc : inC x y with
  | false => rfl
  | true =>
    obtain ⟨⟨h1, h2⟩, h3, h4⟩ := inC_t hc
    rw [h _ (cIx_lt h1 h2 h3 h4)]
theorem runsTo_congr {f g : Nat → Bool} (h : ∀ k, k < 6400 → f k = g k) (y : Int) : ∀ n, runsTo f y n = runsTo g y n
  | 0 => rfl
  | n + 1 => by
    have ih := runsTo_congr h y n
    rw [runsTo, runsTo, ih]
    unfold chg
    rw [hasB_congr h, hasB_congr h]
theorem runsL_congr {f g : Nat → Bool} (h : ∀ k, k < 6400 → f k = g k) (y : Int) : runsL f y = runsL g y := runsTo_congr h y 81
theorem bandE_congr {f g : Nat → Bool} (h : ∀ k, k < 6400 → f k = g k) (y : Int) : ∀ (n : Nat) (e : Int), bandE f y n e = bandE g y n e
  | 0, e => rfl
  | n + 1, e => by
    rw [bandE, bandE, runsL_congr h, runsL_congr h, bandE_congr h y n (e + 1)]
theorem canonF_congr {f g : Nat → Bool} (h : ∀ k, k < 6400 → f k = g k) : ∀ (n : Nat) (y : Int), canonF f n y = canonF g n y
  | 0, y => rfl
  | n + 1, y => by
    rw [canonF, canonF, bandE_congr h, runsL_congr h, canonF_congr h n]
theorem canonL_congr {f g : Nat → Bool} (h : ∀ k, k < 6400 → f k = g k) : canonL f = canonL g := canonF_congr h 80 (-40)
/-- The region of a region's cells is the region. -/
theorem canonL_cov (f : Nat → Bool) : canonL (covF (pA (canonL f)) (pB (canonL f)) (pC (canonL f)) (pD (canonL f)) (canonL f).length) = canonL f := canonL_congr fun k hk => cov_canonL_all f hk
end Go.Proofs.YtciodcknobccdaaDoor

namespace Go.Proofs.YtciodcknobccdaaDoor
open Go.RowKit
set_option linter.unusedVariables false
set_option linter.unusedSimpArgs false

/-- A band: its first row, the row behind its last one, its runs. -/
structure Band where
  b : Int
  d : Int
  rs : List Int
def bandsR : List Band → List R4
  | [] => []
  | B :: L => pairsR B.b B.d B.rs ++ bandsR L
/-- From row y0 on these are the bands of set f. -/
def BandsOK (f : Nat → Bool) : Int → List Band → Prop
  | y0, [] => ∀ y, y0 ≤ y → y < 40 → runsL f y = []
  | y0, B :: L => y0 ≤ B.b ∧ B.b < B.d ∧ B.d ≤ 40 ∧ B.rs ≠ [] ∧ (∀ y, y0 ≤ y → y < B.b → runsL f y = []) ∧ (∀ y, B.b ≤ y → y < B.d → runsL f y = B.rs) ∧ (B.d < 40 → runsL f B.d ≠ B.rs) ∧ BandsOK f B.d L
theorem bandE_exact (f : Nat → Bool) (y t : Int) (ht : t ≤ 40) (hs : t < 40 → runsL f t ≠ runsL f y) : ∀ (n : Nat) (e : Int), e ≤ t → t - e ≤ n → (∀ z, e ≤ z → z < t → runsL f z = runsL f y) → bandE f y n e = t
  | 0, e, h1, h2, h => by rw [bandE]; omega
  | n + 1, e, h1, h2, h => by
    rw [bandE]
    by_cases he : e < t
    · rw [if_pos ⟨by omega, h e (Int.le_refl _) he⟩]
      exact bandE_exact f y t ht hs n (e + 1) (by omega) (by omega) fun z z1 z2 => h z (by omega) z2
    · obtain rfl : e = t := by omega
      rw [if_neg (fun k => hs k.1 k.2)]
theorem canonF_bands (f : Nat → Bool) : ∀ (n : Nat) (y0 : Int) (L : List Band), -40 ≤ y0 → 40 - y0 ≤ n → BandsOK f y0 L → canonF f n y0 = bandsR L
  | 0, y0, [], _, _, _ => rfl
  | 0, y0, B :: L, h0, hn, h => by
    obtain ⟨h1, h2, h3, _⟩ := h
    omega
  | n + 1, y0, [], h0, hn, h => by
    rw [canonF]
    split
    · rename_i hy
      have hge := bandE_ge f y0 80 (y0 + 1)
      rw [h y0 (Int.le_refl _) hy]
      rw [canonF_bands f n _ [] (by omega) (by omega) (fun y y1 y2 => h y (by omega) y2)]
      rfl
    · rfl
  | n + 1, y0, B :: L, h0, hn, h => by
    obtain ⟨h1, h2, h3, h4, h5, h6, h7, h8⟩ := h
    rw [canonF, if_pos (by omega)]
    by_cases hb : y0 = B.b
    · subst hb
      have hr := h6 B.b (Int.le_refl _) h2
      have he : bandE f B.b 80 (B.b + 1) = B.d := by
        refine bandE_exact f B.b B.d h3 (fun hd => by rw [hr]; exact h7 hd) 80 _ (by omega) (by omega) fun z z1 z2 => ?_
        rw [h6 z (by omega) z2, hr]
      rw [he, hr, canonF_bands f n B.d L (by omega) (by omega) h8]
      rfl
    · have hr := h5 y0 (Int.le_refl _) (by omega)
      have he : bandE f y0 80 (y0 + 1) = B.b := by
        refine bandE_exact f y0 B.b (by omega) (fun hd => by rw [hr, h6 B.b (Int.le_refl _) h2]; exact h4) 80 _ (by omega) (by omega) fun z z1 z2 => ?_
        rw [h5 z (by omega) z2, hr]
      rw [he, hr, canonF_bands f n B.b (B :: L) (by omega) (by omega) ⟨Int.le_refl _, h2, h3, h4, fun y y1 y2 => by omega, h6, h7, h8⟩]
      rfl
/-- A list of bands of set f is its region. -/
theorem canonL_bands (f : Nat → Bool) (L : List Band) (h : BandsOK f (-40) L) : canonL f = bandsR L := canonF_bands f 80 (-40) L (by omega) (by omega) h
/-- Every set has bands. -/
theorem bands_ex (f : Nat → Bool) : ∀ (n : Nat) (y0 : Int), 40 - y0 ≤ n → -40 ≤ y0 → ∃ L, BandsOK f y0 L
  | 0, y0, hn, h0 => ⟨[], fun y y1 y2 => by omega⟩
  | n + 1, y0, hn, h0 => by
    by_cases hy : y0 < 40
    · have hge := bandE_ge f y0 80 (y0 + 1)
      have hle := bandE_le f y0 80 (y0 + 1) (by omega)
      have hrun := bandE_runs f y0 80 (y0 + 1) (fun z z1 z2 => by rw [show z = y0 by omega])
      obtain ⟨L, hL⟩ := bands_ex f n (bandE f y0 80 (y0 + 1)) (by omega) (by omega)
      have hstop : bandE f y0 80 (y0 + 1) < 40 → runsL f (bandE f y0 80 (y0 + 1)) ≠ runsL f y0 := bandE_max f y0 80 (y0 + 1) (by omega)
      by_cases hr : runsL f y0 = []
      · match L, hL with
        | [], hL => exact ⟨[], fun y y1 y2 => by
            by_cases hz : y < bandE f y0 80 (y0 + 1)
            · rw [hrun y y1 hz, hr]
            · exact hL y (by omega) y2⟩
        | B :: L, ⟨k1, k2, k3, k4, k5, k6, k7, k8⟩ => exact ⟨B :: L, by omega, k2, k3, k4, fun y y1 y2 => by
            by_cases hz : y < bandE f y0 80 (y0 + 1)
            · rw [hrun y y1 hz, hr]
            · exact k5 y (by omega) y2, k6, k7, k8⟩
      · exact ⟨⟨y0, bandE f y0 80 (y0 + 1), runsL f y0⟩ :: L, Int.le_refl _, by simp; omega, hle, hr, fun y y1 y2 => by simp at y2; omega, fun y y1 y2 => hrun y y1 y2, hstop, hL⟩
    · exact ⟨[], fun y y1 y2 => by omega⟩
where
  bandE_max (f : Nat → Bool) (y : Int) : ∀ (n : Nat) (e : Int), 40 - e ≤ n → bandE f y n e < 40 → runsL f (bandE f y n e) ≠ runsL f y
  | 0, e, hn, h => by rw [bandE] at h; omega
  | n + 1, e, hn, h => by
    rw [bandE] at h ⊢
    split
    · rename_i hc
      rw [if_pos hc] at h
      exact bandE_max f y n (e + 1) (by omega) h
    · rename_i hc
      rw [if_neg hc] at h
      exact fun k => hc ⟨h, k⟩
end Go.Proofs.YtciodcknobccdaaDoor

namespace Go.Proofs.YtciodcknobccdaaDoor
open Go.RowKit
set_option linter.unusedVariables false
set_option linter.unusedSimpArgs false

/-- Increasing. -/
def incL : List Int → Prop
  | [] => True
  | a :: l => (∀ u, u ∈ l → a < u) ∧ incL l
theorem incL_snoc : ∀ (l : List Int) (v : Int), incL l → (∀ u, u ∈ l → u < v) → incL (l ++ [v])
  | [], v, _, _ => ⟨fun u hu => absurd hu (by simp), trivial⟩
  | a :: l, v, h, hv => ⟨fun u hu => by
      rcases List.mem_append.1 hu with h' | h'
      · exact h.1 u h'
      · rw [List.mem_singleton.1 h']; exact hv a (by simp), incL_snoc l v h.2 fun u hu => hv u (by simp [hu])⟩
theorem runsTo_inc (f : Nat → Bool) (y : Int) : ∀ k, incL (runsTo f y k)
  | 0 => trivial
  | k + 1 => by
    rw [runsTo]; split
    · exact incL_snoc _ _ (runsTo_inc f y k) fun u hu => (runsTo_mem f y k u hu).2
    · exact runsTo_inc f y k
theorem inP_low (x : Int) : ∀ l : List Int, (∀ u, u ∈ l → x < u) → inP x l = false
  | [], _ => rfl
  | [a], h => by have := h a (by simp); simp [inP]; omega
  | a :: c :: l, h => by
    have h1 := h a (by simp)
    rw [inP, inP_low x l fun u hu => h u (by simp [hu]), decide_eq_false (by omega)]
    rfl
theorem inP_chg (v : Int) : ∀ l : List Int, incL l → ((inP v l != inP (v - 1) l) = true ↔ v ∈ l)
  | [], _ => by simp [inP]
  | [a], _ => by
    rw [List.mem_singleton, inP, inP]
    by_cases h1 : a ≤ v - 1
    · rw [decide_eq_true h1, decide_eq_true (show a ≤ v by omega)]; simp; omega
    · by_cases h2 : a ≤ v
      · rw [decide_eq_false h1, decide_eq_true h2]; simp; omega
      · rw [decide_eq_false h1, decide_eq_false h2]; simp; omega
  | a :: c :: l, h => by
    have hac := h.1 c (by simp)
    have hcl := h.2.1
    have ih := inP_chg v l h.2.2
    rw [inP, inP]
    by_cases hv : v ≤ c
    · have hnl : v ∉ l := fun e => by have := hcl v e; omega
      rw [inP_low v l fun u hu => by have := hcl u hu; omega, inP_low (v - 1) l fun u hu => by have := hcl u hu; omega]
      simp only [Bool.or_false, List.mem_cons, hnl, or_false]
      by_cases h1 : a ≤ v - 1
      · rw [decide_eq_true h1, decide_eq_true (show a ≤ v by omega), decide_eq_true (show v - 1 < c by omega)]
        by_cases h3 : v < c
        · rw [decide_eq_true h3]; simp; omega
        · rw [decide_eq_false h3]; simp; omega
      · by_cases h2 : a ≤ v
        · rw [decide_eq_false h1, decide_eq_true h2, decide_eq_true (show v < c by omega)]; simp; omega
        · rw [decide_eq_false h1, decide_eq_false h2]; simp; omega
    · rw [decide_eq_false (show ¬ v < c by omega), decide_eq_false (show ¬ v - 1 < c by omega)]
      simp only [Bool.and_false, Bool.false_or]
      rw [ih]
      simp only [List.mem_cons]
      constructor
      · intro h; exact .inr (.inr h)
      · rintro (h | h | h)
        · omega
        · omega
        · exact h
theorem filt_none (v : Int) : ∀ l : List Int, (∀ u, u ∈ l → ¬ u < v) → l.filter (fun u => decide (u < v)) = []
  | [], _ => rfl
  | a :: l, h => by
    rw [List.filter_cons, decide_eq_false (h a (by simp)), filt_none v l fun u hu => h u (by simp [hu])]
    rfl
theorem filt_step (v : Int) : ∀ l : List Int, incL l → l.filter (fun u => decide (u < v + 1)) = l.filter (fun u => decide (u < v)) ++ if v ∈ l then [v] else []
  | [], _ => by simp
  | a :: l, h => by
    have ih := filt_step v l h.2
    rw [List.filter_cons, List.filter_cons]
    by_cases h1 : a < v
    · rw [decide_eq_true h1, decide_eq_true (show a < v + 1 by omega), if_pos rfl, if_pos rfl, ih, List.cons_append]
      have : (v ∈ a :: l) ↔ v ∈ l := by simp only [List.mem_cons]; constructor
                                        · rintro (h | h); · omega
                                          · exact h
                                        · exact .inr
      by_cases hm : v ∈ l
      · rw [if_pos hm, if_pos (this.2 hm)]
      · rw [if_neg hm, if_neg (fun e => hm (this.1 e))]
    · rw [decide_eq_false h1]
      have hz : ∀ u, u ∈ l → ¬ u < v + 1 := fun u hu => by have := h.1 u hu; omega
      rw [filt_none (v + 1) l hz, filt_none v l fun u hu => by have := hz u hu; omega]
      by_cases h2 : a = v
      · subst h2
        simp
        omega
      · have hm : ¬ v ∈ a :: l := by
          simp only [List.mem_cons]
          rintro (h | h)
          · omega
          · have := hz v h; omega
        rw [decide_eq_false (show ¬ a < v + 1 by omega), if_neg hm]
        simp
theorem filt_all (v : Int) : ∀ l : List Int, (∀ u, u ∈ l → u < v) → l.filter (fun u => decide (u < v)) = l
  | [], _ => rfl
  | a :: l, h => by
    rw [List.filter_cons, decide_eq_true (h a (by simp)), filt_all v l fun u hu => h u (by simp [hu])]
    rfl
theorem runsTo_filt (f : Nat → Bool) (y : Int) (l : List Int) (hi : incL l) (hb : ∀ u, u ∈ l → -40 ≤ u ∧ u ≤ 40) (h : ∀ v, -40 ≤ v → v ≤ 40 → (chg f v y = true ↔ v ∈ l)) : ∀ k : Nat, k ≤ 81 → runsTo f y k = l.filter (fun u => decide (u < -40 + (k : Int)))
  | 0, _ => by
    rw [filt_none _ l fun u hu => by have := hb u hu; omega]; rfl
  | k + 1, hk => by
    have ih := runsTo_filt f y l hi hb h k (by omega)
    rw [runsTo, ih]
    have hs := filt_step (-40 + (k : Int)) l hi
    rw [show (-40 + ((k + 1 : Nat) : Int)) = -40 + (k : Int) + 1 by omega, hs]
    have hc := h (-40 + (k : Int)) (by omega) (by omega)
    by_cases hm : -40 + (k : Int) ∈ l
    · rw [if_pos hm, if_pos (hc.2 hm)]
    · rw [if_neg hm, if_neg (fun e => hm (hc.1 e)), List.append_nil]
/-- An increasing list of even length whose runs are the cells of the row is the row's list. -/
theorem runsL_of (f : Nat → Bool) (y : Int) (l : List Int) (hi : incL l) (hb : ∀ u, u ∈ l → -40 ≤ u ∧ u ≤ 40) (he : l.length % 2 = 0) (h : ∀ x, -40 ≤ x → x ≤ 39 → inP x l = hasB f x y) : runsL f y = l := by
  have hx : ∀ x, -41 ≤ x → x ≤ 40 → inP x l = hasB f x y := fun x x1 x2 => by
    by_cases e1 : x = -41
    · rw [hasB_out (by omega), inP_low x l fun u hu => by have := hb u hu; omega]
    · by_cases e2 : x = 40
      · rw [hasB_out (by omega), inP_all x l fun u hu => by have := hb u hu; omega]
        exact decide_eq_false (by omega)
      · exact h x (by omega) (by omega)
  unfold runsL
  rw [runsTo_filt f y l hi hb (fun v v1 v2 => by
    rw [← inP_chg v l hi]
    unfold chg
    rw [hx v (by omega) (by omega), hx (v - 1) (by omega) (by omega)]) 81 (Nat.le_refl _)]
  exact filt_all _ l fun u hu => by have := hb u hu; omega
end Go.Proofs.YtciodcknobccdaaDoor

namespace Go.Proofs.YtciodcknobccdaaDoor
open Go.RowKit
set_option linter.unusedVariables false
set_option linter.unusedSimpArgs false

/-- How many of the first k cells of row y are set. -/
def rowC (f : Nat → Bool) (y : Int) : Nat → Int
  | 0 => 0
  | k + 1 => rowC f y k + if hasB f (-40 + (k : Int)) y = true then 1 else 0
theorem cntF_row (f : Nat → Bool) (j : Nat) (hj : j < 80) : ∀ k : Nat, k ≤ 80 → cntF f (80 * j + k) = cntF f (80 * j) + rowC f (-40 + (j : Int)) k
  | 0, _ => by simp [rowC]
  | k + 1, hk => by
    have ih := cntF_row f j hj k (by omega)
    rw [show 80 * j + (k + 1) = (80 * j + k) + 1 by omega, cntF, ih, rowC, hasB_in (by omega)]
    have e : cIx (-40 + (k : Int)) (-40 + (j : Int)) = 80 * j + k := by unfold cIx; omega
    rw [e]; omega
/-- The cells of the runs up to column v. -/
def psum (v : Int) : List Int → Int
  | a :: c :: l => (c - a) + psum v l
  | [a] => v - a
  | [] => 0
theorem psum_up (v : Int) : ∀ l : List Int, psum (v + 1) l = psum v l + if l.length % 2 = 1 then 1 else 0
  | [] => by simp [psum]
  | [a] => by simp [psum]; omega
  | a :: c :: l => by
    have ih := psum_up v l
    rw [psum, psum, ih]
    have e : (a :: c :: l).length % 2 = l.length % 2 := by simp only [List.length_cons]; omega
    rw [e]; omega
theorem psum_snoc (v : Int) : ∀ l : List Int, psum v (l ++ [v]) = psum v l
  | [] => by simp [psum]
  | [a] => by simp [psum]
  | a :: c :: l => by
    rw [List.cons_append, List.cons_append, psum, psum, psum_snoc v l]
theorem rowC_psum (f : Nat → Bool) (y : Int) : ∀ k : Nat, k ≤ 81 → rowC f y k = psum (-40 + (k : Int)) (runsTo f y k)
  | 0, _ => rfl
  | k + 1, hk => by
    have ih := rowC_psum f y k (by omega)
    have hp := runsTo_par f y (k + 1) hk
    rw [show (-40 + ((k + 1 : Nat) : Int) - 1) = -40 + (k : Int) by omega] at hp
    rw [show (-40 + ((k + 1 : Nat) : Int)) = -40 + (k : Int) + 1 by omega, psum_up, rowC, ih]
    have e : psum (-40 + (k : Int)) (runsTo f y (k + 1)) = psum (-40 + (k : Int)) (runsTo f y k) := by
      rw [runsTo]; split
      · exact psum_snoc _ _
      · rfl
    rw [e]
    by_cases hb : hasB f (-40 + (k : Int)) y = true
    · rw [if_pos hb, if_pos (hp.1 hb)]
    · rw [if_neg hb, if_neg (fun h => hb (hp.2 h))]
theorem rowC_runs (f : Nat → Bool) (y : Int) : rowC f y 80 = psum 40 (runsL f y) := by
  have h := rowC_psum f y 80 (by omega)
  rw [show (-40 + ((80 : Nat) : Int)) = 40 by omega] at h
  have e : runsTo f y 81 = runsTo f y (80 + 1) := rfl
  have e2 : psum 40 (runsTo f y (80 + 1)) = psum 40 (runsTo f y 80) := by
    cases hc : chg f (-40 + ((80 : Nat) : Int)) y with
    | true =>
      rw [runsTo_yes hc]
      exact psum_snoc 40 _
    | false => rw [runsTo_no hc]
  unfold runsL
  rw [e, e2, h]
/-- The cells of the first j rows that list l holds. -/
def rowsS (l : List R4) : Nat → Int
  | 0 => 0
  | j + 1 => rowsS l j + psum 40 (rowL l (-40 + (j : Int)))
theorem cntF_rows (f : Nat → Bool) : ∀ j : Nat, j ≤ 80 → cntF f (80 * j) = rowsS (canonL f) j
  | 0, _ => rfl
  | j + 1, hj => by
    have ih := cntF_rows f j (by omega)
    have h := cntF_row f j (by omega) 80 (Nat.le_refl _)
    rw [show 80 * (j + 1) = 80 * j + 80 by omega, h, ih, rowC_runs, rowsS, canonL_row f _ (by omega) (by omega)]
/-- How many of the first j rows lie from b to d. -/
def rowN (b d : Int) : Nat → Int
  | 0 => 0
  | j + 1 => rowN b d j + if b ≤ -40 + (j : Int) ∧ -40 + (j : Int) < d then 1 else 0
theorem rowN_is (b d : Int) (h1 : -40 ≤ b) (h2 : b ≤ d) : ∀ j : Nat, rowN b d j = if -40 + (j : Int) ≤ b then 0 else if -40 + (j : Int) ≤ d then -40 + (j : Int) - b else d - b
  | 0 => by rw [if_pos (by omega)]; rfl
  | j + 1 => by
    rw [rowN, rowN_is b d h1 h2 j]
    split <;> split <;> split <;> (try split) <;> (try split) <;> omega
theorem rowsS_cons (r : R4) (l : List R4) : ∀ j, rowsS (r :: l) j = (r.c - r.a) * rowN r.b r.d j + rowsS l j
  | 0 => by simp [rowsS, rowN]
  | j + 1 => by
    have ih := rowsS_cons r l j
    have e : psum 40 (rowL (r :: l) (-40 + (j : Int))) = (if r.b ≤ -40 + (j : Int) ∧ -40 + (j : Int) < r.d then r.c - r.a else 0) + psum 40 (rowL l (-40 + (j : Int))) := by
      unfold rowL
      rw [List.flatMap_cons]
      split
      · rw [List.cons_append, List.cons_append, List.nil_append, psum]
      · rw [List.nil_append]; omega
    rw [rowsS, rowsS, ih, e, rowN, Int.mul_add]
    split
    · rw [Int.mul_one]; omega
    · rw [Int.mul_zero]; omega
theorem rowsS_area : ∀ l : List R4, (∀ r, r ∈ l → rvB r.a r.b r.c r.d = true) → rowsS l 80 = (l.map fun r => areaV r.a r.b r.c r.d).sum
  | [], _ => by
    have : ∀ j, rowsS [] j = 0 := fun j => by
      induction j with
      | zero => rfl
      | succ j ih => rw [rowsS, ih]; rfl
    rw [this]; rfl
  | r :: l, h => by
    have hr := h r (by simp)
    obtain ⟨h1, h2, h3, h4, h5, h6⟩ := rvB_t hr
    rw [rowsS_cons, rowsS_area l fun u hu => h u (by simp [hu]), rowN_is _ _ (by omega) (by omega), List.map_cons, List.sum_cons]
    unfold areaV
    rw [if_pos hr]
    by_cases e : (-40 + ((80 : Nat) : Int)) ≤ r.b
    · omega
    · rw [if_neg e]
      by_cases e2 : (-40 + ((80 : Nat) : Int)) ≤ r.d
      · rw [if_pos e2, show (-40 + ((80 : Nat) : Int)) - r.b = r.d - r.b by omega]
      · rw [if_neg e2]
theorem sumA_listR (P Q R S : Nat → Int) : ∀ n, ((listR P Q R S n).map fun r => areaV r.a r.b r.c r.d).sum = sumA P Q R S n
  | 0 => rfl
  | n + 1 => by
    have ih := sumA_listR P Q R S n
    unfold listR at ih ⊢
    rw [List.range_succ, List.map_append, List.map_append, List.sum_append, ih, sumA]
    simp
theorem okR_canon {P Q R S : Nat → Int} {n : Nat} (h : okR P Q R S n = true) : canonL (covF P Q R S n) = listR P Q R S n := by
  unfold okR at h
  rw [Bool.and_eq_true] at h
  exact of_decide_eq_true h.2
theorem listR_valid {P Q R S : Nat → Int} {n : Nat} (h : ∀ i, i < n → rvB (P i) (Q i) (R i) (S i) = true) : ∀ r, r ∈ listR P Q R S n → rvB r.a r.b r.c r.d = true := fun r hr => by
  unfold listR at hr
  obtain ⟨i, hi, rfl⟩ := List.mem_map.1 hr
  exact h i (List.mem_range.1 hi)
/-- The area of a region is the sum of its rectangles' areas. -/
theorem okR_area {P Q R S : Nat → Int} {n : Nat} (h : okR P Q R S n = true) : cntF (covF P Q R S n) 6400 = sumA P Q R S n := by
  have h1 := cntF_rows (covF P Q R S n) 80 (Nat.le_refl _)
  rw [okR_canon h, rowsS_area _ (listR_valid (okR_all h)), sumA_listR] at h1
  exact h1
theorem areaR_sum (P Q R S : Nat → Int) (n : Nat) : areaR P Q R S n = if okR P Q R S n = true then sumA P Q R S n else -1 := by
  unfold areaR
  by_cases h : okR P Q R S n = true
  · rw [if_pos h, if_pos h, okR_area h]
  · rw [if_neg h, if_neg h]
/-- A region's rows. -/
theorem okR_row {P Q R S : Nat → Int} {n : Nat} (h : okR P Q R S n = true) (y : Int) (h1 : -40 ≤ y) (h2 : y < 40) : runsL (covF P Q R S n) y = rowL (listR P Q R S n) y := by
  rw [← canonL_row _ y h1 h2, okR_canon h]
end Go.Proofs.YtciodcknobccdaaDoor

namespace Go.Proofs.YtciodcknobccdaaDoor
open Go.RowKit
set_option linter.unusedVariables false
set_option linter.unusedSimpArgs false

theorem runsL_len (f : Nat → Bool) (y : Int) : (runsL f y).length ≤ 80 := by
  have h1 := runsL_even f y
  have h2 : (runsL f y).length ≤ 81 := runsTo_len f y 81
  omega
theorem canonF_len' (f : Nat → Bool) : ∀ (n : Nat) (y : Int), (canonF f n y).length ≤ 40 * n
  | 0, y => by simp [canonF]
  | n + 1, y => by
    rw [canonF]; split
    · have h1 := canonF_len' f n (bandE f y 80 (y + 1))
      have h2 := runsL_len f y
      rw [List.length_append, pairsR_len]; omega
    · simp
theorem canonL_len' (f : Nat → Bool) : (canonL f).length ≤ 3200 := canonF_len' f 80 (-40)
theorem pairsR_valid (b d : Int) (h1 : -40 ≤ b) (h2 : b < d) (h3 : d ≤ 40) : ∀ l : List Int, incL l → (∀ u, u ∈ l → -40 ≤ u ∧ u ≤ 40) → ∀ r, r ∈ pairsR b d l → rvB r.a r.b r.c r.d = true
  | [], _, _, r, hr => absurd hr (by simp [pairsR])
  | [a], _, _, r, hr => absurd hr (by simp [pairsR])
  | a :: c :: l, hi, hb, r, hr => by
    rw [pairsR, List.mem_cons] at hr
    rcases hr with rfl | hr
    · exact rvB_mk ⟨(hb a (by simp)).1, hi.1 c (by simp), (hb c (by simp)).2, h1, h2, h3⟩
    · exact pairsR_valid b d h1 h2 h3 l hi.2.2 (fun u hu => hb u (by simp [hu])) r hr
theorem runsL_mem (f : Nat → Bool) (y u : Int) (h : u ∈ runsL f y) : -40 ≤ u ∧ u ≤ 40 := by
  have := runsTo_mem f y 81 u h; omega
theorem canonF_valid (f : Nat → Bool) : ∀ (n : Nat) (y : Int), -40 ≤ y → ∀ r, r ∈ canonF f n y → rvB r.a r.b r.c r.d = true
  | 0, y, _, r, hr => absurd hr (by simp [canonF])
  | n + 1, y, hy, r, hr => by
    rw [canonF] at hr
    split at hr
    · rename_i h40
      have hge := bandE_ge f y 80 (y + 1)
      have hle := bandE_le f y 80 (y + 1) (by omega)
      rcases List.mem_append.1 hr with hr | hr
      · exact pairsR_valid y _ hy (by omega) hle _ (runsTo_inc f y 81) (fun u hu => runsL_mem f y u hu) r hr
      · exact canonF_valid f n _ (by omega) r hr
    · exact absurd hr (by simp)
theorem canonL_valid (f : Nat → Bool) : ∀ r, r ∈ canonL f → rvB r.a r.b r.c r.d = true := canonF_valid f 80 (-40) (by omega)
theorem canonL_valid_at (f : Nat → Bool) (i : Nat) (h : i < (canonL f).length) : rvB (pA (canonL f) i) (pB (canonL f) i) (pC (canonL f) i) (pD (canonL f) i) = true :=
  canonL_valid f _ (List.mem_of_getElem? (getD_get h))
theorem allV_mk {P Q R S : Nat → Int} : ∀ {n : Nat}, (∀ i, i < n → rvB (P i) (Q i) (R i) (S i) = true) → allV P Q R S n = true
  | 0, _ => rfl
  | n + 1, h => by rw [allV_succ, allV_mk fun i hi => h i (by omega), h n (by omega)]; rfl
/-- A list is a region exactly if its rectangles are valid and it is the canonical list of its cells. -/
theorem okR_iff (P Q R S : Nat → Int) (n : Nat) : okR P Q R S n = true ↔ (∀ i, i < n → rvB (P i) (Q i) (R i) (S i) = true) ∧ canonL (covF P Q R S n) = listR P Q R S n := by
  constructor
  · intro h; exact ⟨okR_all h, okR_canon h⟩
  · rintro ⟨hv, hc⟩
    have hlen := canonL_len' (covF P Q R S n)
    rw [hc, listR_len] at hlen
    have h1 := cntF_rows (covF P Q R S n) 80 (Nat.le_refl _)
    rw [hc, rowsS_area _ (listR_valid hv), sumA_listR] at h1
    have h2 := (cntF_bd (covF P Q R S n) (80 * 80)).2
    rw [h1] at h2
    unfold okR okV
    rw [allV_mk hv, decide_eq_true hlen, decide_eq_true hc, decide_eq_true (by omega)]
    rfl
/-- The canonical list of a set is a region. -/
theorem okR_canonL (f : Nat → Bool) : okR (pA (canonL f)) (pB (canonL f)) (pC (canonL f)) (pD (canonL f)) (canonL f).length = true :=
  (okR_iff _ _ _ _ _).2 ⟨canonL_valid_at f, by rw [canonL_cov, listR_pA]⟩
/-- Rectangle r stands before rectangle s in a region. -/
def ordR (r s : R4) : Prop := (r.b = s.b ∧ r.d = s.d ∧ r.c < s.a) ∨ r.d ≤ s.b
theorem pairsR_mem (b d : Int) : ∀ (l : List Int) (r : R4), r ∈ pairsR b d l → r.b = b ∧ r.d = d ∧ r.a ∈ l ∧ r.c ∈ l
  | [], r, h => absurd h (by simp [pairsR])
  | [a], r, h => absurd h (by simp [pairsR])
  | a :: c :: l, r, h => by
    rw [pairsR, List.mem_cons] at h
    rcases h with rfl | h
    · exact ⟨rfl, rfl, by simp, by simp⟩
    · obtain ⟨h1, h2, h3, h4⟩ := pairsR_mem b d l r h
      exact ⟨h1, h2, by simp [h3], by simp [h4]⟩
theorem pairsR_ord (b d : Int) : ∀ l : List Int, incL l → (pairsR b d l).Pairwise ordR
  | [], _ => by simp [pairsR]
  | [a], _ => by simp [pairsR]
  | a :: c :: l, h => by
    rw [pairsR, List.pairwise_cons]
    refine ⟨fun s hs => ?_, pairsR_ord b d l h.2.2⟩
    obtain ⟨h1, h2, h3, h4⟩ := pairsR_mem b d l s hs
    exact .inl ⟨h1.symm, h2.symm, h.2.1 _ h3⟩
theorem canonF_ge (f : Nat → Bool) : ∀ (n : Nat) (y : Int) (r : R4), r ∈ canonF f n y → y ≤ r.b
  | 0, y, r, h => absurd h (by simp [canonF])
  | n + 1, y, r, h => by
    rw [canonF] at h
    split at h
    · have hge := bandE_ge f y 80 (y + 1)
      rcases List.mem_append.1 h with h | h
      · have := (pairsR_mem _ _ _ _ h).1; omega
      · have := canonF_ge f n _ r h; omega
    · exact absurd h (by simp)
theorem canonF_ord (f : Nat → Bool) : ∀ (n : Nat) (y : Int), (canonF f n y).Pairwise ordR
  | 0, y => by simp [canonF]
  | n + 1, y => by
    rw [canonF]; split
    · rw [List.pairwise_append]
      refine ⟨pairsR_ord _ _ _ (runsTo_inc f y 81), canonF_ord f n _, fun r hr s hs => .inr ?_⟩
      have h1 := (pairsR_mem _ _ _ _ hr).2.1
      have h2 := canonF_ge f n _ s hs
      omega
    · simp
theorem canonL_ord (f : Nat → Bool) : (canonL f).Pairwise ordR := canonF_ord f 80 (-40)
/-- The order of a region's rectangles. -/
theorem okR_ord {P Q R S : Nat → Int} {n : Nat} (h : okR P Q R S n = true) {i j : Nat} (hij : i < j) (hj : j < n) : (Q i = Q j ∧ S i = S j ∧ R i < P j) ∨ S i ≤ Q j := by
  have ho := canonL_ord (covF P Q R S n)
  rw [okR_canon h, List.pairwise_iff_getElem] at ho
  have := ho i j (by rw [listR_len]; omega) (by rw [listR_len]; omega) hij
  simpa [listR, ordR] using this
end Go.Proofs.YtciodcknobccdaaDoor
