/- Which cells a cell reaches: the model's flags and the program's list. Condition: the library is valid. -/
import Derived.Test.YtciodcknobccdaaDoorLcN
namespace Go.Proofs.YtciodcknobccdaaDoor
open Go.RowKit
set_option linter.unusedVariables false
set_option linter.unusedSimpArgs false

/-- The flag of cell j after the n highest cells have marked what they place. -/
def rsB (L : List Cel) (k : Nat) : Nat → Nat → Bool
  | 0, j => decide (j = k)
  | n + 1, j => rsB L k n j || (rsB L k n (L.length - 1 - n) && plF L (L.length - 1 - n) (j : Int))
/-- Cell j is reached. -/
def reB (L : List Cel) (k j : Nat) : Bool := rsB L k L.length j
theorem plF_low {L : List Cel} (h : libB L = true) {i j : Nat} (hp : plF L i (j : Int) = true) : j < i ∧ i < L.length := by
  unfold plF at hp
  cases hc : L[i]? with
  | none => rw [hc] at hp; simp at hp
  | some c =>
    rw [hc] at hp
    refine ⟨?_, get_lt hc⟩
    simp only [plB, Bool.not_eq_true', List.all_eq_false] at hp
    obtain ⟨s, hs, hn⟩ := hp
    obtain ⟨t, ht⟩ := List.getElem?_of_mem hs
    have := (lib_ins h hc ht).1
    have e : s.c = (j : Int) := by simpa [noPl] using hn
    omega
theorem rsB_succ (L : List Cel) (k n j : Nat) : rsB L k (n + 1) j = (rsB L k n j || (rsB L k n (L.length - 1 - n) && plF L (L.length - 1 - n) (j : Int))) := rfl
theorem rsB_still {L : List Cel} (h : libB L = true) (k : Nat) {j n : Nat} (hn : L.length - 1 - j ≤ n) : ∀ d, rsB L k (n + d) j = rsB L k n j := by
  intro d
  induction d with
  | zero => rfl
  | succ d ih =>
    rw [Nat.add_succ, rsB_succ, ih]
    cases hp : plF L (L.length - 1 - (n + d)) (j : Int)
    · simp
    · have := plF_low h hp; omega
theorem rsB_full {L : List Cel} (h : libB L = true) (k : Nat) {j n : Nat} (hn : L.length - 1 - j ≤ n) (hl : n ≤ L.length) : rsB L k n j = reB L k j := by
  have := rsB_still h k hn (L.length - n)
  rw [show n + (L.length - n) = L.length by omega] at this
  exact this.symm
theorem rsB_iff (L : List Cel) (k j : Nat) : ∀ n, rsB L k n j = true ↔ j = k ∨ ∃ m, m < n ∧ rsB L k m (L.length - 1 - m) = true ∧ plF L (L.length - 1 - m) (j : Int) = true := by
  intro n
  induction n with
  | zero => simp [rsB]
  | succ n ih =>
    rw [rsB_succ, Bool.or_eq_true, ih, Bool.and_eq_true]
    constructor
    · rintro ((h | ⟨m, hm, h⟩) | h)
      · exact .inl h
      · exact .inr ⟨m, by omega, h⟩
      · exact .inr ⟨n, by omega, h⟩
    · rintro (h | ⟨m, hm, h⟩)
      · exact .inl (.inl h)
      · by_cases e : m = n
        · subst e; exact .inr h
        · exact .inl (.inr ⟨m, by omega, h⟩)
theorem reB_iff {L : List Cel} (h : libB L = true) {k j : Nat} : reB L k j = true ↔ j = k ∨ ∃ u, j < u ∧ reB L k u = true ∧ plF L u (j : Int) = true := by
  unfold reB
  rw [rsB_iff]
  constructor
  · rintro (e | ⟨m, hm, h1, h2⟩)
    · exact .inl e
    · refine .inr ⟨L.length - 1 - m, (plF_low h h2).1, ?_, h2⟩
      rw [rsB_full h k (by omega) (by omega)] at h1
      exact h1
  · rintro (e | ⟨u, hu, h1, h2⟩)
    · exact .inl e
    · have hl := (plF_low h h2).2
      refine .inr ⟨L.length - 1 - u, by omega, ?_, ?_⟩
      · rw [show L.length - 1 - (L.length - 1 - u) = u by omega, rsB_full h k (Nat.le_refl _) (by omega)]
        exact h1
      · rw [show L.length - 1 - (L.length - 1 - u) = u by omega]; exact h2
theorem reB_self {L : List Cel} (h : libB L = true) (k : Nat) : reB L k k = true := (reB_iff h).2 (.inl rfl)
theorem reB_above {L : List Cel} (h : libB L = true) {k : Nat} : ∀ n j, L.length ≤ j + n → k < j → reB L k j = false := by
  intro n
  induction n with
  | zero =>
    intro j hj hk
    cases hr : reB L k j with
    | false => rfl
    | true =>
      rcases (reB_iff h).1 hr with e | ⟨u, hu, h1, h2⟩
      · omega
      · have := (plF_low h h2).2; omega
  | succ n ih =>
    intro j hj hk
    cases hr : reB L k j with
    | false => rfl
    | true =>
      rcases (reB_iff h).1 hr with e | ⟨u, hu, h1, h2⟩
      · omega
      · rw [ih u (by omega) (by omega)] at h1; cases h1
/-- The reached cells below i, upwards: what the model returns. -/
def rcU (L : List Cel) (k : Nat) : Nat → List Int
  | 0 => []
  | i + 1 => rcU L k i ++ (if reB L k i = true then [(i : Int)] else [])
/-- The reached cells from k down to k - n: what the program gathers. -/
def rcN (L : List Cel) (k : Nat) : Nat → List Int
  | 0 => [(k : Int)]
  | n + 1 => rcN L k n ++ (if reB L k (k - 1 - n) = true then [((k - 1 - n : Nat) : Int)] else [])
theorem rcU_above {L : List Cel} (h : libB L = true) {k : Nat} : ∀ n, rcU L k (k + 1 + n) = rcU L k (k + 1) := by
  intro n
  induction n with
  | zero => rfl
  | succ n ih => rw [← Nat.add_assoc, rcU, ih, reB_above h L.length _ (by omega) (by omega)]; simp
theorem rc_both {L : List Cel} (h : libB L = true) {k : Nat} : ∀ n, n ≤ k → rcU L k (k - n) ++ (rcN L k n).reverse = rcU L k (k + 1) := by
  intro n
  induction n with
  | zero => intro _; rw [rcN, rcU, reB_self h k]; simp
  | succ n ih =>
    intro hn
    rw [← ih (by omega), rcN, show k - n = (k - (n + 1)) + 1 by omega, rcU, show k - 1 - n = k - (n + 1) by omega, List.reverse_append, List.append_assoc]
    congr 1
    split <;> simp
theorem rc_rev {L : List Cel} (h : libB L = true) {k : Nat} (hk : k < L.length) : (rcN L k k).reverse = rcU L k L.length := by
  have e := rc_both h k (Nat.le_refl k)
  rw [Nat.sub_self, rcU, List.nil_append] at e
  rw [e, ← rcU_above h (L.length - (k + 1)), show k + 1 + (L.length - (k + 1)) = L.length by omega]
/-- A member of the program's list. -/
theorem rcN_mem {L : List Cel} (h : libB L = true) {k : Nat} : ∀ n, n ≤ k → ∀ z : Int, z ∈ rcN L k n ↔ ∃ u : Nat, z = (u : Int) ∧ k - n ≤ u ∧ u ≤ k ∧ reB L k u = true := by
  intro n
  induction n with
  | zero =>
    intro _ z
    rw [rcN, List.mem_singleton]
    exact ⟨fun e => ⟨k, e, by omega, by omega, reB_self h k⟩, fun ⟨u, e, h1, h2, _⟩ => by rw [e]; congr 1; omega⟩
  | succ n ih =>
    intro hn z
    rw [rcN, List.mem_append, ih (by omega)]
    constructor
    · rintro (⟨u, e, h1, h2, h3⟩ | hz)
      · exact ⟨u, e, by omega, h2, h3⟩
      · split at hz
        · rename_i hr
          rw [List.mem_singleton] at hz
          exact ⟨_, hz, by omega, by omega, hr⟩
        · cases hz
    · rintro ⟨u, e, h1, h2, h3⟩
      by_cases hu : k - n ≤ u
      · exact .inl ⟨u, e, hu, h2, h3⟩
      · have e2 : u = k - 1 - n := by omega
        subst e2
        rw [if_pos h3]
        exact .inr (List.mem_singleton.2 e)
/-- What the program asks of its list when it comes to a cell. -/
theorem rcN_next {L : List Cel} (h : libB L = true) {k n : Nat} (hn : n < k) : ((rcN L k n).any fun z => plF L z.toNat ((k - 1 - n : Nat) : Int)) = reB L k (k - 1 - n) := by
  rw [Bool.eq_iff_iff, List.any_eq_true, reB_iff h]
  constructor
  · rintro ⟨z, hz, hp⟩
    obtain ⟨u, e, h1, h2, h3⟩ := (rcN_mem h n (by omega) z).1 hz
    subst e
    exact .inr ⟨u, by omega, h3, by simpa using hp⟩
  · rintro (e | ⟨u, hu, h1, h2⟩)
    · omega
    · have hk : u ≤ k := by
        by_cases c : k < u
        · rw [reB_above h L.length u (by omega) c] at h1; cases h1
        · omega
      exact ⟨(u : Int), (rcN_mem h n (by omega) _).2 ⟨u, rfl, by omega, hk, h1⟩, by simpa using h2⟩
end Go.Proofs.YtciodcknobccdaaDoor
