/- What holds of each canonical list: its length, its rectangles; when a list is a region. No program's run in it. -/
import Derived.Test.YtadfmflkaemmbaaDoorRgZ
import Derived.Test.YtadfmflkaemmbaaDoorRhA
namespace Go.Proofs.YtadfmflkaemmbaaDoor
open Go.RowKit
set_option linter.unusedVariables false
set_option linter.unusedSimpArgs false

theorem runsL_len (f : Nat → Bool) (y : Int) : (runsL f y).length ≤ 80 := by
  have h1 := runsL_even f y
  have h2 : (runsL f y).length ≤ 81 := runsTo_len f y 81
  omega
theorem canonF_len' (f : Nat → Bool) : ∀ (n : Nat) (y : Int), (canonF f n y).length ≤ 40 * n
  | 0, y => by simp [canonF]
  | n + 1, y => by
    rw [canonF]; split
    · have h1 := canonF_len' f n (bandE f y 80 (y + 1))
      have h2 := runsL_len f y
      rw [List.length_append, pairsR_len]; omega
    · simp
theorem canonL_len' (f : Nat → Bool) : (canonL f).length ≤ 3200 := canonF_len' f 80 (-40)
theorem pairsR_valid (b d : Int) (h1 : -40 ≤ b) (h2 : b < d) (h3 : d ≤ 40) : ∀ l : List Int, incL l → (∀ u, u ∈ l → -40 ≤ u ∧ u ≤ 40) → ∀ r, r ∈ pairsR b d l → rvB r.a r.b r.c r.d = true
  | [], _, _, r, hr => absurd hr (by simp [pairsR])
  | [a], _, _, r, hr => absurd hr (by simp [pairsR])
  | a :: c :: l, hi, hb, r, hr => by
    rw [pairsR, List.mem_cons] at hr
    rcases hr with rfl | hr
    · exact rvB_mk ⟨(hb a (by simp)).1, hi.1 c (by simp), (hb c (by simp)).2, h1, h2, h3⟩
    · exact pairsR_valid b d h1 h2 h3 l hi.2.2 (fun u hu => hb u (by simp [hu])) r hr
theorem runsL_mem (f : Nat → Bool) (y u : Int) (h : u ∈ runsL f y) : -40 ≤ u ∧ u ≤ 40 := by
  have := runsTo_mem f y 81 u h; omega
theorem canonF_valid (f : Nat → Bool) : ∀ (n : Nat) (y : Int), -40 ≤ y → ∀ r, r ∈ canonF f n y → rvB r.a r.b r.c r.d = true
  | 0, y, _, r, hr => absurd hr (by simp [canonF])
  | n + 1, y, hy, r, hr => by
    rw [canonF] at hr
    split at hr
    · rename_i h40
      have hge := bandE_ge f y 80 (y + 1)
      have hle := bandE_le f y 80 (y + 1) (by omega)
      rcases List.mem_append.1 hr with hr | hr
      · exact pairsR_valid y _ hy (by omega) hle _ (runsTo_inc f y 81) (fun u hu => runsL_mem f y u hu) r hr
      · exact canonF_valid f n _ (by omega) r hr
    · exact absurd hr (by simp)
theorem canonL_valid (f : Nat → Bool) : ∀ r, r ∈ canonL f → rvB r.a r.b r.c r.d = true := canonF_valid f 80 (-40) (by omega)
theorem canonL_valid_at (f : Nat → Bool) (i : Nat) (h : i < (canonL f).length) : rvB (pA (canonL f) i) (pB (canonL f) i) (pC (canonL f) i) (pD (canonL f) i) = true :=
  canonL_valid f _ (List.mem_of_getElem? (getD_get h))
theorem allV_mk {P Q R S : Nat → Int} : ∀ {n : Nat}, (∀ i, i < n → rvB (P i) (Q i) (R i) (S i) = true) → allV P Q R S n = true
  | 0, _ => rfl
  | n + 1, h => by rw [allV_succ, allV_mk fun i hi => h i (by omega), h n (by omega)]; rfl
/-- A list is a region exactly if its rectangles are valid and it is the canonical list of its cells. -/
theorem okR_iff (P Q R S : Nat → Int) (n : Nat) : okR P Q R S n = true ↔ (∀ i, i < n → rvB (P i) (Q i) (R i) (S i) = true) ∧ canonL (covF P Q R S n) = listR P Q R S n := by
  constructor
  · intro h; exact ⟨okR_all h, okR_canon h⟩
  · rintro ⟨hv, hc⟩
    have hlen := canonL_len' (covF P Q R S n)
    rw [hc, listR_len] at hlen
    have h1 := cntF_rows (covF P Q R S n) 80 (Nat.le_refl _)
    rw [hc, rowsS_area _ (listR_valid hv), sumA_listR] at h1
    have h2 := (cntF_bd (covF P Q R S n) (80 * 80)).2
    rw [h1] at h2
    unfold okR okV
    rw [allV_mk hv, decide_eq_true hlen, decide_eq_true hc, decide_eq_true (by omega)]
    rfl
/-- The canonical list of a set is a region. -/
theorem okR_canonL (f : Nat → Bool) : okR (pA (canonL f)) (pB (canonL f)) (pC (canonL f)) (pD (canonL f)) (canonL f).length = true :=
  (okR_iff _ _ _ _ _).2 ⟨canonL_valid_at f, by rw [canonL_cov, listR_pA]⟩
/-- Rectangle r stands before rectangle s in a region. -/
def ordR (r s : R4) : Prop := (r.b = s.b ∧ r.d = s.d ∧ r.c < s.a) ∨ r.d ≤ s.b
theorem pairsR_mem (b d : Int) : ∀ (l : List Int) (r : R4), r ∈ pairsR b d l → r.b = b ∧ r.d = d ∧ r.a ∈ l ∧ r.c ∈ l
  | [], r, h => absurd h (by simp [pairsR])
  | [a], r, h => absurd h (by simp [pairsR])
  | a :: c :: l, r, h => by
    rw [pairsR, List.mem_cons] at h
    rcases h with rfl | h
    · exact ⟨rfl, rfl, by simp, by simp⟩
    · obtain ⟨h1, h2, h3, h4⟩ := pairsR_mem b d l r h
      exact ⟨h1, h2, by simp [h3], by simp [h4]⟩
theorem pairsR_ord (b d : Int) : ∀ l : List Int, incL l → (pairsR b d l).Pairwise ordR
  | [], _ => by simp [pairsR]
  | [a], _ => by simp [pairsR]
  | a :: c :: l, h => by
    rw [pairsR, List.pairwise_cons]
    refine ⟨fun s hs => ?_, pairsR_ord b d l h.2.2⟩
    obtain ⟨h1, h2, h3, h4⟩ := pairsR_mem b d l s hs
    exact .inl ⟨h1.symm, h2.symm, h.2.1 _ h3⟩
theorem canonF_ge (f : Nat → Bool) : ∀ (n : Nat) (y : Int) (r : R4), r ∈ canonF f n y → y ≤ r.b
  | 0, y, r, h => absurd h (by simp [canonF])
  | n + 1, y, r, h => by
    rw [canonF] at h
    split at h
    · have hge := bandE_ge f y 80 (y + 1)
      rcases List.mem_append.1 h with h | h
      · have := (pairsR_mem _ _ _ _ h).1; omega
      · have := canonF_ge f n _ r h; omega
    · exact absurd h (by simp)
theorem canonF_ord (f : Nat → Bool) : ∀ (n : Nat) (y : Int), (canonF f n y).Pairwise ordR
  | 0, y => by simp [canonF]
  | n + 1, y => by
    rw [canonF]; split
    · rw [List.pairwise_append]
      refine ⟨pairsR_ord _ _ _ (runsTo_inc f y 81), canonF_ord f n _, fun r hr s hs => .inr ?_⟩
      have h1 := (pairsR_mem _ _ _ _ hr).2.1
      have h2 := canonF_ge f n _ s hs
      omega
    · simp
theorem canonL_ord (f : Nat → Bool) : (canonL f).Pairwise ordR := canonF_ord f 80 (-40)
/-- The order of a region's rectangles. -/
theorem okR_ord {P Q R S : Nat → Int} {n : Nat} (h : okR P Q R S n = true) {i j : Nat} (hij : i < j) (hj : j < n) : (Q i = Q j ∧ S i = S j ∧ R i < P j) ∨ S i ≤ Q j := by
  have ho := canonL_ord (covF P Q R S n)
  rw [okR_canon h, List.pairwise_iff_getElem] at ho
  have := ho i j (by rw [listR_len]; omega) (by rw [listR_len]; omega) hij
  simpa [listR, ordR] using this
end Go.Proofs.YtadfmflkaemmbaaDoor
