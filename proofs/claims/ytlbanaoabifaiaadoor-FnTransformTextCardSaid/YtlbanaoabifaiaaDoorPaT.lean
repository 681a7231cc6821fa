/- The model's ParseTransform: at the text of a valid transform, and at every other text. -/
import Derived.Test.YtlbanaoabifaiaaDoorPaS
namespace Go.Proofs.YtlbanaoabifaiaaDoor
open Go.RowKit
set_option linter.unusedVariables false
set_option linter.unusedSimpArgs false

theorem atD (s : ByteArray) (i : Nat) (hi : i < s.size) : s[i] = s.data.toList.getD i 0 := by
  have h' : i < s.data.toList.length := by rw [← Lib.size_eq]; exact hi
  rw [List.getD, List.getElem?_eq_getElem h', Array.getElem_toList]; rfl
theorem wordL_facts : ∀ u : Fin 8, (wordL u).length = 2 ∧ ((wordL u).getD 0 0 = 109 ↔ 4 ≤ u.val) ∧ ((wordL u).getD 1 0).toNat = 48 + u.val % 4 := by decide +kernel
theorem word_facts {u : Nat} (hu : u < 8) : (wordB u).size = 2 ∧ (∀ h : 0 < (wordB u).size, ((wordB u)[0]'h).toNat = 109 ↔ 4 ≤ u) ∧ (∀ h : 1 < (wordB u).size, ((wordB u)[1]'h).toNat = 48 + u % 4) := by
  obtain ⟨h1, h2, h3⟩ := wordL_facts ⟨u, hu⟩
  refine ⟨by rw [Lib.size_eq, word_list]; exact h1, fun h => ?_, fun h => ?_⟩
  · rw [atD, word_list]
    constructor
    · intro e
      exact h2.1 (UInt8.toNat_inj.1 e)
    · intro e
      rw [h2.2 e]; rfl
  · rw [atD, word_list]; exact h3

theorem fmt_size (o x y : Int) : (fmtB o x y).size ≤ 12 := by
  by_cases hv : vldB o x y = true
  · obtain ⟨⟨o0, o7⟩, ⟨x0, x1⟩, y0, y1⟩ := vldB_t hv
    have z0 := itoaB_size (o % 4) (by omega) (by omega)
    have z1 := itoaB_size x (by omega) (by omega)
    have z2 := itoaB_size y (by omega) (by omega)
    have zL : (letterB o).size = 1 := by unfold letterB; split <;> rfl
    have zB : blankB.size = 1 := rfl
    rw [fmtB, if_pos hv]
    simp only [ByteArray.size_append]; omega
  · rw [fmtB, if_neg hv]; decide

theorem PRes.yes {o x y : Int} {e : Ending} (hv : vldB o x y = true) (h : PRes (fmtB o x y) (itoaB x) (itoaB y) o e) : yesT o x y e := by
  obtain ⟨⟨o0, o7⟩, ⟨x0, x1⟩, y0, y1⟩ := vldB_t hv
  obtain ⟨v1, b1, v2, b2, g1, g2, h⟩ := h
  obtain ⟨rfl, rfl⟩ := g1 x (by omega) (by omega) rfl
  obtain ⟨rfl, rfl⟩ := g2 y (by omega) (by omega) rfl
  rcases h with ⟨_, _, _, h⟩ | ⟨h, _⟩
  · exact h
  · exact absurd ⟨rfl, rfl, rfl⟩ h

theorem no_fmt {s : ByteArray} (hno : ∀ o x y, vldB o x y = true → s ≠ fmtB o x y) (h3 : (wordsB s).length = 3) (o x y : Int) : fmtB o x y ≠ s := by
  intro h
  cases hv : vldB o x y with
  | true => exact hno o x y hv h.symm
  | false =>
    rw [fmt_empty o x y hv] at h
    subst h
    rw [words_empty] at h3
    exact absurd h3 (by decide)

theorem PRes.no {s b c : ByteArray} {o : Int} {e : Ending} (hno : ∀ o x y, vldB o x y = true → s ≠ fmtB o x y) (h3 : (wordsB s).length = 3) (h : PRes s b c o e) : noT e := by
  obtain ⟨v1, b1, v2, b2, g1, g2, ⟨_, _, h, _⟩ | ⟨_, h⟩⟩ := h
  · exact absurd h (no_fmt hno h3 _ _ _)
  · exact h

theorem specParse_yes (o x y : Int) (w : World) (hv : vldB o x y = true) : Calls Tryd.prog 13 #[.string (fmtB o x y)] w fun e w' => yesT o x y e ∧ Below w.heap.size w w' := by
  have hw := fmt_words o x y hv
  have hz := fmt_size o x y
  have hv' := hv
  obtain ⟨⟨o0, o7⟩, ⟨x0, x1⟩, y0, y1⟩ := vldB_t hv'
  have z1 := itoaB_size x (by omega) (by omega)
  have z2 := itoaB_size y (by omega) (by omega)
  obtain ⟨u, rfl⟩ : ∃ u : Nat, o = (u : Int) := ⟨o.toNat, by omega⟩
  obtain ⟨f1, f2, f3⟩ := word_facts (u := u) (by omega)
  have h0 : 0 < (wordB u).size := by omega
  have h1 : 1 < (wordB u).size := by omega
  have f2 := f2 h0
  have f3 := f3 h1
  by_cases h4 : 4 ≤ u
  · refine (specParse_m _ _ _ _ w hz hw f1 h0 h1 (by omega) (by omega) (by omega)).mono ?_
    rintro e w' ⟨h, hb⟩
    rw [f3, show ((48 + u % 4 : Nat) : Int) - 48 + 4 = (u : Int) by omega] at h
    exact ⟨h.yes hv, hb⟩
  · refine (specParse_r _ _ _ _ w hz hw f1 h0 h1 (by simp; omega) (by omega) (by omega)).mono ?_
    rintro e w' ⟨h, hb⟩
    rw [f3, show ((48 + u % 4 : Nat) : Int) - 48 = (u : Int) by omega] at h
    exact ⟨h.yes hv, hb⟩

theorem three (l : List ByteArray) (h : l.length = 3) : ∃ a b c, l = [a, b, c] := by
  match l, h with
  | [a, b, c], _ => exact ⟨a, b, c, rfl⟩

theorem specParse_no (s : ByteArray) (w : World) (hno : ∀ o x y, vldB o x y = true → s ≠ fmtB o x y) : Calls Tryd.prog 13 #[.string s] w fun e w' => noT e ∧ Below w.heap.size w w' := by
  by_cases hz : 12 < s.size
  · exact specParse_long s w hz
  by_cases h3 : (wordsB s).length = 3
  · obtain ⟨a, b, c, hw⟩ := three _ h3
    have sb := words_small (s := s) (p := b) (by rw [hw]; simp)
    have sc := words_small (s := s) (p := c) (by rw [hw]; simp)
    by_cases h2 : a.size = 2
    · have h0 : 0 < a.size := by omega
      have h1 : 1 < a.size := by omega
      by_cases hm : (a[0].toNat : Int) = 109
      · exact (specParse_m s a b c w (by omega) hw h2 h0 h1 hm (by omega) (by omega)).mono fun e w' ⟨h, hb⟩ => ⟨h.no hno h3, hb⟩
      · exact (specParse_r s a b c w (by omega) hw h2 h0 h1 (by simpa using hm) (by omega) (by omega)).mono fun e w' ⟨h, hb⟩ => ⟨h.no hno h3, hb⟩
    · exact specParse_first s a b c w (by omega) hw h2
  · exact specParse_count s w (by omega) h3
end Go.Proofs.YtlbanaoabifaiaaDoor
