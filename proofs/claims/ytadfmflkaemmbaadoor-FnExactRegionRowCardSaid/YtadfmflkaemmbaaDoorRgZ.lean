/- A row's runs are the only increasing list of its form. No program's run in it. -/
import Derived.Test.YtadfmflkaemmbaaDoorRgY
namespace Go.Proofs.YtadfmflkaemmbaaDoor
open Go.RowKit
set_option linter.unusedVariables false
set_option linter.unusedSimpArgs false

/-- Increasing. -/
def incL : List Int → Prop
  | [] => True
  | a :: l => (∀ u, u ∈ l → a < u) ∧ incL l
theorem incL_snoc : ∀ (l : List Int) (v : Int), incL l → (∀ u, u ∈ l → u < v) → incL (l ++ [v])
  | [], v, _, _ => ⟨fun u hu => absurd hu (by simp), trivial⟩
  | a :: l, v, h, hv => ⟨fun u hu => by
      rcases List.mem_append.1 hu with h' | h'
      · exact h.1 u h'
      · rw [List.mem_singleton.1 h']; exact hv a (by simp), incL_snoc l v h.2 fun u hu => hv u (by simp [hu])⟩
theorem runsTo_inc (f : Nat → Bool) (y : Int) : ∀ k, incL (runsTo f y k)
  | 0 => trivial
  | k + 1 => by
    rw [runsTo]; split
    · exact incL_snoc _ _ (runsTo_inc f y k) fun u hu => (runsTo_mem f y k u hu).2
    · exact runsTo_inc f y k
theorem inP_low (x : Int) : ∀ l : List Int, (∀ u, u ∈ l → x < u) → inP x l = false
  | [], _ => rfl
  | [a], h => by have := h a (by simp); simp [inP]; omega
  | a :: c :: l, h => by
    have h1 := h a (by simp)
    rw [inP, inP_low x l fun u hu => h u (by simp [hu]), decide_eq_false (by omega)]
    rfl
theorem inP_chg (v : Int) : ∀ l : List Int, incL l → ((inP v l != inP (v - 1) l) = true ↔ v ∈ l)
  | [], _ => by simp [inP]
  | [a], _ => by
    rw [List.mem_singleton, inP, inP]
    by_cases h1 : a ≤ v - 1
    · rw [decide_eq_true h1, decide_eq_true (show a ≤ v by omega)]; simp; omega
    · by_cases h2 : a ≤ v
      · rw [decide_eq_false h1, decide_eq_true h2]; simp; omega
      · rw [decide_eq_false h1, decide_eq_false h2]; simp; omega
  | a :: c :: l, h => by
    have hac := h.1 c (by simp)
    have hcl := h.2.1
    have ih := inP_chg v l h.2.2
    rw [inP, inP]
    by_cases hv : v ≤ c
    · have hnl : v ∉ l := fun e => by have := hcl v e; omega
      rw [inP_low v l fun u hu => by have := hcl u hu; omega, inP_low (v - 1) l fun u hu => by have := hcl u hu; omega]
      simp only [Bool.or_false, List.mem_cons, hnl, or_false]
      by_cases h1 : a ≤ v - 1
      · rw [decide_eq_true h1, decide_eq_true (show a ≤ v by omega), decide_eq_true (show v - 1 < c by omega)]
        by_cases h3 : v < c
        · rw [decide_eq_true h3]; simp; omega
        · rw [decide_eq_false h3]; simp; omega
      · by_cases h2 : a ≤ v
        · rw [decide_eq_false h1, decide_eq_true h2, decide_eq_true (show v < c by omega)]; simp; omega
        · rw [decide_eq_false h1, decide_eq_false h2]; simp; omega
    · rw [decide_eq_false (show ¬ v < c by omega), decide_eq_false (show ¬ v - 1 < c by omega)]
      simp only [Bool.and_false, Bool.false_or]
      rw [ih]
      simp only [List.mem_cons]
      constructor
      · intro h; exact .inr (.inr h)
      · rintro (h | h | h)
        · omega
        · omega
        · exact h
theorem filt_none (v : Int) : ∀ l : List Int, (∀ u, u ∈ l → ¬ u < v) → l.filter (fun u => decide (u < v)) = []
  | [], _ => rfl
  | a :: l, h => by
    rw [List.filter_cons, decide_eq_false (h a (by simp)), filt_none v l fun u hu => h u (by simp [hu])]
    rfl
theorem filt_step (v : Int) : ∀ l : List Int, incL l → l.filter (fun u => decide (u < v + 1)) = l.filter (fun u => decide (u < v)) ++ if v ∈ l then [v] else []
  | [], _ => by simp
  | a :: l, h => by
    have ih := filt_step v l h.2
    rw [List.filter_cons, List.filter_cons]
    by_cases h1 : a < v
    · rw [decide_eq_true h1, decide_eq_true (show a < v + 1 by omega), if_pos rfl, if_pos rfl, ih, List.cons_append]
      have : (v ∈ a :: l) ↔ v ∈ l := by simp only [List.mem_cons]; constructor
                                        · rintro (h | h); · omega
                                          · exact h
                                        · exact .inr
      by_cases hm : v ∈ l
      · rw [if_pos hm, if_pos (this.2 hm)]
      · rw [if_neg hm, if_neg (fun e => hm (this.1 e))]
    · rw [decide_eq_false h1]
      have hz : ∀ u, u ∈ l → ¬ u < v + 1 := fun u hu => by have := h.1 u hu; omega
      rw [filt_none (v + 1) l hz, filt_none v l fun u hu => by have := hz u hu; omega]
      by_cases h2 : a = v
      · subst h2
        simp
        omega
      · have hm : ¬ v ∈ a :: l := by
          simp only [List.mem_cons]
          rintro (h | h)
          · omega
          · have := hz v h; omega
        rw [decide_eq_false (show ¬ a < v + 1 by omega), if_neg hm]
        simp
theorem filt_all (v : Int) : ∀ l : List Int, (∀ u, u ∈ l → u < v) → l.filter (fun u => decide (u < v)) = l
  | [], _ => rfl
  | a :: l, h => by
    rw [List.filter_cons, decide_eq_true (h a (by simp)), filt_all v l fun u hu => h u (by simp [hu])]
    rfl
theorem runsTo_filt (f : Nat → Bool) (y : Int) (l : List Int) (hi : incL l) (hb : ∀ u, u ∈ l → -40 ≤ u ∧ u ≤ 40) (h : ∀ v, -40 ≤ v → v ≤ 40 → (chg f v y = true ↔ v ∈ l)) : ∀ k : Nat, k ≤ 81 → runsTo f y k = l.filter (fun u => decide (u < -40 + (k : Int)))
  | 0, _ => by
    rw [filt_none _ l fun u hu => by have := hb u hu; omega]; rfl
  | k + 1, hk => by
    have ih := runsTo_filt f y l hi hb h k (by omega)
    rw [runsTo, ih]
    have hs := filt_step (-40 + (k : Int)) l hi
    rw [show (-40 + ((k + 1 : Nat) : Int)) = -40 + (k : Int) + 1 by omega, hs]
    have hc := h (-40 + (k : Int)) (by omega) (by omega)
    by_cases hm : -40 + (k : Int) ∈ l
    · rw [if_pos hm, if_pos (hc.2 hm)]
    · rw [if_neg hm, if_neg (fun e => hm (hc.1 e)), List.append_nil]
/-- An increasing list of even length whose runs are the cells of the row is the row's list. -/
theorem runsL_of (f : Nat → Bool) (y : Int) (l : List Int) (hi : incL l) (hb : ∀ u, u ∈ l → -40 ≤ u ∧ u ≤ 40) (he : l.length % 2 = 0) (h : ∀ x, -40 ≤ x → x ≤ 39 → inP x l = hasB f x y) : runsL f y = l := by
  have hx : ∀ x, -41 ≤ x → x ≤ 40 → inP x l = hasB f x y := fun x x1 x2 => by
    by_cases e1 : x = -41
    · rw [hasB_out (by omega), inP_low x l fun u hu => by have := hb u hu; omega]
    · by_cases e2 : x = 40
      · rw [hasB_out (by omega), inP_all x l fun u hu => by have := hb u hu; omega]
        exact decide_eq_false (by omega)
      · exact h x (by omega) (by omega)
  unfold runsL
  rw [runsTo_filt f y l hi hb (fun v v1 v2 => by
    rw [← inP_chg v l hi]
    unfold chg
    rw [hx v (by omega) (by omega), hx (v - 1) (by omega) (by omega)]) 81 (Nat.le_refl _)]
  exact filt_all _ l fun u hu => by have := hb u hu; omega
end Go.Proofs.YtadfmflkaemmbaaDoor
