/- Connected parts of a set of unit cells. No program's run in it. -/
import Derived.Test.YtepfnnhmplaocaaDoorQE
namespace Go.Proofs.YtepfnnhmplaocaaDoor
open Go.RowKit
set_option linter.unusedVariables false
set_option linter.unusedSimpArgs false

/-- Two unit cells that share a side, or a corner too, or are the same. -/
def adjC (wide : Bool) (x y u v : Int) : Prop := (x - 1 ≤ u ∧ u ≤ x + 1) ∧ (y - 1 ≤ v ∧ v ≤ y + 1) ∧ (wide = true ∨ u = x ∨ v = y)
theorem adjC.symm {wide : Bool} {x y u v : Int} (h : adjC wide x y u v) : adjC wide u v x y := by
  obtain ⟨h1, h2, h3⟩ := h
  refine ⟨by omega, by omega, ?_⟩
  rcases h3 with h3 | h3 | h3
  · exact .inl h3
  · exact .inr (.inl h3.symm)
  · exact .inr (.inr h3.symm)
/-- The cells that are connected with a cell of the set, inside it. -/
inductive Conn (f : Nat → Bool) (wide : Bool) (x y : Int) : Int → Int → Prop
  | start : hasB f x y = true → Conn f wide x y x y
  | step {u v p q : Int} : Conn f wide x y u v → adjC wide u v p q → hasB f p q = true → Conn f wide x y p q
theorem Conn.left {f : Nat → Bool} {wide : Bool} {x y u v : Int} (h : Conn f wide x y u v) : hasB f x y = true := by
  induction h with
  | start h => exact h
  | step _ _ _ ih => exact ih
theorem Conn.right {f : Nat → Bool} {wide : Bool} {x y u v : Int} (h : Conn f wide x y u v) : hasB f u v = true := by
  cases h with
  | start h => exact h
  | step _ _ h => exact h
theorem Conn.trans {f : Nat → Bool} {wide : Bool} {x y u v p q : Int} (h : Conn f wide x y u v) (k : Conn f wide u v p q) : Conn f wide x y p q := by
  induction k with
  | start _ => exact h
  | step _ a b ih => exact .step ih a b
theorem Conn.symm {f : Nat → Bool} {wide : Bool} {x y u v : Int} (h : Conn f wide x y u v) : Conn f wide u v x y := by
  induction h with
  | start h => exact .start h
  | @step u v p q c a b ih => exact Conn.trans (.step (.start b) a.symm c.right) ih
theorem Conn.one {f : Nat → Bool} {wide : Bool} {x y u v : Int} (h : hasB f x y = true) (a : adjC wide x y u v) (k : hasB f u v = true) : Conn f wide x y u v := .step (.start h) a k
theorem Conn.congr {f g : Nat → Bool} {wide : Bool} (e : ∀ x y, hasB f x y = hasB g x y) {x y u v : Int} (h : Conn f wide x y u v) : Conn g wide x y u v := by
  induction h with
  | start h => exact .start (by rw [← e]; exact h)
  | step _ a b ih => exact .step ih a (by rw [← e]; exact b)
theorem hasB_chip {f : Nat → Bool} {x y : Int} (h : hasB f x y = true) : (-40 ≤ x ∧ x ≤ 39) ∧ (-40 ≤ y ∧ y ≤ 39) := by
  unfold hasB at h; rw [Bool.and_eq_true] at h; exact inC_t h.1
/-- The place of a flag: its column and its row. -/
def cxN (k : Nat) : Int := ((k % 80 : Nat) : Int) - 40
def cyN (k : Nat) : Int := ((k / 80 : Nat) : Int) - 40
theorem cIx_cN {k : Nat} (hk : k < 6400) : cIx (cxN k) (cyN k) = k ∧ (-40 ≤ cxN k ∧ cxN k ≤ 39) ∧ (-40 ≤ cyN k ∧ cyN k ≤ 39) := by unfold cIx cxN cyN; omega
theorem cxN_at {x y : Int} (h : (-40 ≤ x ∧ x ≤ 39) ∧ (-40 ≤ y ∧ y ≤ 39)) : cxN (cIx x y) = x ∧ cyN (cIx x y) = y := cIx_back h.1.1 h.1.2 h.2.1 h.2.2
open Classical in
/-- The part of a set that holds a cell. -/
noncomputable def partF (f : Nat → Bool) (wide : Bool) (x y : Int) (k : Nat) : Bool := decide (Conn f wide x y (cxN k) (cyN k))
theorem partF_t {f : Nat → Bool} {wide : Bool} {x y : Int} {k : Nat} : partF f wide x y k = true ↔ Conn f wide x y (cxN k) (cyN k) := by unfold partF; simp
theorem has_part {f : Nat → Bool} {wide : Bool} {x y u v : Int} : hasB (partF f wide x y) u v = true ↔ Conn f wide x y u v := by
  constructor
  · intro h
    have hc := hasB_chip h
    rw [hasB_in hc, partF_t, (cxN_at hc).1, (cxN_at hc).2] at h
    exact h
  · intro h
    have hc := hasB_chip h.right
    rw [hasB_in hc, partF_t, (cxN_at hc).1, (cxN_at hc).2]
    exact h
/-- Two connected cells have the same part. -/
theorem partF_same {f : Nat → Bool} {wide : Bool} {x y u v : Int} (h : Conn f wide x y u v) : partF f wide x y = partF f wide u v := by
  funext k
  rw [Bool.eq_iff_iff, partF_t, partF_t]
  exact ⟨fun a => h.symm.trans a, fun a => h.trans a⟩
/-- The first cells of the parts among the first k cells, row by row. -/
noncomputable def startsTo (f : Nat → Bool) (wide : Bool) : Nat → List Nat
  | 0 => []
  | k + 1 => if (f k && !((startsTo f wide k).any fun s => partF f wide (cxN s) (cyN s) k)) = true then startsTo f wide k ++ [k] else startsTo f wide k
theorem startsTo_mem {f : Nat → Bool} {wide : Bool} : ∀ {n s : Nat}, s ∈ startsTo f wide n → s < n ∧ f s = true
  | 0, s, h => by simp [startsTo] at h
  | n + 1, s, h => by
    rw [startsTo] at h
    split at h
    · rename_i hc
      rcases List.mem_append.1 h with h | h
      · have := startsTo_mem h; exact ⟨by omega, this.2⟩
      · obtain rfl := List.mem_singleton.1 h
        rw [Bool.and_eq_true] at hc
        exact ⟨by omega, hc.1⟩
    · have := startsTo_mem h; exact ⟨by omega, this.2⟩
theorem startsTo_len (f : Nat → Bool) (wide : Bool) : ∀ n, (startsTo f wide n).length ≤ n
  | 0 => Nat.le_refl _
  | n + 1 => by
    have := startsTo_len f wide n
    rw [startsTo]; split
    · rw [List.length_append]; simp; omega
    · omega
/-- Every cell of the set among the first n ones is in the part of a start. -/
theorem startsTo_all {f : Nat → Bool} {wide : Bool} : ∀ {n k : Nat}, n ≤ 6400 → k < n → f k = true → ∃ s, s ∈ startsTo f wide n ∧ partF f wide (cxN s) (cyN s) k = true
  | 0, k, _, h, _ => by omega
  | n + 1, k, hn, h, hf => by
    rw [startsTo]
    by_cases hk : k < n
    · obtain ⟨s, h1, h2⟩ := startsTo_all (by omega) hk hf
      refine ⟨s, ?_, h2⟩
      split
      · exact List.mem_append.2 (.inl h1)
      · exact h1
    · obtain rfl : k = n := by omega
      have hc := cIx_cN (k := k) (by omega)
      split
      · refine ⟨k, List.mem_append.2 (.inr (by simp)), ?_⟩
        rw [partF_t]
        exact .start (by rw [hasB_in hc.2, hc.1]; exact hf)
      · rename_i hn'
        rw [hf] at hn'
        simp only [Bool.true_and, Bool.not_eq_true', Bool.not_eq_false, List.any_eq_true] at hn'
        exact hn'
/-- No two starts are connected. -/
theorem startsTo_apart {f : Nat → Bool} {wide : Bool} : ∀ {n : Nat}, (startsTo f wide n).Pairwise fun s t => s < t ∧ partF f wide (cxN s) (cyN s) t = false
  | 0 => by simp [startsTo]
  | n + 1 => by
    rw [startsTo]
    split
    · rename_i hc
      rw [List.pairwise_append]
      refine ⟨startsTo_apart, by simp, fun s hs t ht => ?_⟩
      obtain rfl := List.mem_singleton.1 ht
      refine ⟨(startsTo_mem hs).1, ?_⟩
      rw [Bool.and_eq_true] at hc
      have h2 := hc.2
      rw [Bool.not_eq_true', List.any_eq_false] at h2
      have := h2 s hs
      simpa using this
    · exact startsTo_apart
/-- A cell is the start of its part exactly if no earlier cell is connected with it. -/
theorem startsTo_iff {f : Nat → Bool} {wide : Bool} {n s : Nat} (hn : n ≤ 6400) : s ∈ startsTo f wide n ↔ s < n ∧ f s = true ∧ ∀ j, j < s → partF f wide (cxN s) (cyN s) j = false := by
  have key : ∀ {n s : Nat}, n ≤ 6400 → s ∈ startsTo f wide n → ∀ j, j < s → partF f wide (cxN s) (cyN s) j = false := by
    intro n s hn hs j hj
    cases hp : partF f wide (cxN s) (cyN s) j with
    | false => rfl
    | true =>
      have hsn := startsTo_mem hs
      have hcs := cIx_cN (k := s) (by omega)
      have hcj := cIx_cN (k := j) (by omega)
      rw [partF_t] at hp
      have hfj : f j = true := by have := hp.right; rw [hasB_in hcj.2, hcj.1] at this; exact this
      obtain ⟨t, ht, hpt⟩ := startsTo_all (wide := wide) (n := n) hn (by omega : j < n) hfj
      rw [partF_t] at hpt
      have hts : Conn f wide (cxN t) (cyN t) (cxN s) (cyN s) := hpt.trans hp.symm
      have hap := startsTo_apart (f := f) (wide := wide) (n := n)
      -- t and s are the same start
      have hst : s = t := by
        rcases Nat.lt_trichotomy s t with h | h | h
        · exfalso
          obtain ⟨i, hi, rfl⟩ := List.mem_iff_getElem.1 hs
          obtain ⟨k, hk, rfl⟩ := List.mem_iff_getElem.1 ht
          rw [List.pairwise_iff_getElem] at hap
          rcases Nat.lt_trichotomy i k with e | e | e
          · have := (hap i k hi hk e).2
            rw [← Bool.not_eq_true, partF_t] at this
            exact this hts.symm
          · subst e; omega
          · have := (hap k i hk hi e).1; omega
        · exact h
        · exfalso
          obtain ⟨i, hi, rfl⟩ := List.mem_iff_getElem.1 hs
          obtain ⟨k, hk, rfl⟩ := List.mem_iff_getElem.1 ht
          rw [List.pairwise_iff_getElem] at hap
          rcases Nat.lt_trichotomy k i with e | e | e
          · have := (hap k i hk hi e).2
            rw [← Bool.not_eq_true, partF_t] at this
            exact this hts
          · subst e; omega
          · have := (hap i k hi hk e).1; omega
      subst hst
      -- the start of j's part lies no later than j
      obtain ⟨t', ht', hpt'⟩ := startsTo_all (wide := wide) (n := j + 1) (by omega) (by omega : j < j + 1) hfj
      have hmono : ∀ m, j + 1 ≤ m → m ≤ n → t' ∈ startsTo f wide m := by
        intro m hm
        induction m with
        | zero => omega
        | succ m ih =>
          intro hmn
          by_cases e : m + 1 = j + 1
          · rw [e]; exact ht'
          · have := ih (by omega) (by omega)
            rw [startsTo]; split
            · exact List.mem_append.2 (.inl this)
            · exact this
      have ht'n := hmono n (by omega) (Nat.le_refl _)
      have hlt := (startsTo_mem ht').1
      rw [partF_t] at hpt'
      obtain ⟨i, hi, e1⟩ := List.mem_iff_getElem.1 hs
      obtain ⟨k, hk, e2⟩ := List.mem_iff_getElem.1 ht'n
      rw [List.pairwise_iff_getElem] at hap
      rcases Nat.lt_trichotomy k i with e | e | e
      · have := (hap k i hk hi e).2
        rw [e1, e2, ← Bool.not_eq_true, partF_t] at this
        exact absurd (hpt'.trans hp.symm) this
      · subst e; omega
      · have := (hap i k hi hk e).1; omega
  constructor
  · intro h
    exact ⟨(startsTo_mem h).1, (startsTo_mem h).2, key hn h⟩
  · rintro ⟨h1, h2, h3⟩
    obtain ⟨t, ht, hpt⟩ := startsTo_all (wide := wide) hn h1 h2
    have htn := startsTo_mem ht
    have hct := cIx_cN (k := t) (by omega)
    have hcs := cIx_cN (k := s) (by omega)
    rcases Nat.lt_trichotomy s t with h | h | h
    · have := key hn ht s h
      rw [hpt] at this; cases this
    · rw [h]; exact ht
    · have := h3 t h
      rw [← Bool.not_eq_true, partF_t] at this
      rw [partF_t] at hpt
      exact absurd hpt.symm this
/-- Two increasing lists with the same members are equal. -/
theorem inc_ext : ∀ {l l' : List Nat}, l.Pairwise (· < ·) → l'.Pairwise (· < ·) → (∀ x, x ∈ l ↔ x ∈ l') → l = l'
  | [], [], _, _, _ => rfl
  | [], b :: l', _, _, h => absurd ((h b).2 (by simp)) (by simp)
  | a :: l, [], _, _, h => absurd ((h a).1 (by simp)) (by simp)
  | a :: l, b :: l', h1, h2, h => by
    rw [List.pairwise_cons] at h1 h2
    have hab : a = b := by
      rcases Nat.lt_trichotomy a b with e | e | e
      · rcases List.mem_cons.1 ((h a).1 (by simp)) with k | k
        · exact k
        · have := h2.1 a k; omega
      · exact e
      · rcases List.mem_cons.1 ((h b).2 (by simp)) with k | k
        · exact k.symm
        · have := h1.1 b k; omega
    subst hab
    rw [inc_ext h1.2 h2.2 fun x => ?_]
    constructor
    · intro hx
      rcases List.mem_cons.1 ((h x).1 (by simp [hx])) with k | k
      · have := h1.1 x hx; omega
      · exact k
    · intro hx
      rcases List.mem_cons.1 ((h x).2 (by simp [hx])) with k | k
      · have := h2.1 x hx; omega
      · exact k
theorem startsTo_inc {f : Nat → Bool} {wide : Bool} {n : Nat} : (startsTo f wide n).Pairwise (· < ·) := (startsTo_apart (f := f) (wide := wide) (n := n)).imp fun h => h.1
/-- One more flag. -/
theorem cntF_put (f : Nat → Bool) (j : Nat) (hj : f j = false) : ∀ n, j < n → cntF (fun i => f i || decide (i = j)) n = cntF f n + 1
  | 0, h => by omega
  | n + 1, h => by
    rw [cntF, cntF]
    by_cases e : j = n
    · subst e
      have hs : ∀ m, m ≤ j → cntF (fun i => f i || decide (i = j)) m = cntF f m := by
        intro m
        induction m with
        | zero => intro _; rfl
        | succ m ih =>
          intro hm
          rw [cntF, cntF, ih (by omega), decide_eq_false (by omega : ¬ m = j), Bool.or_false]
      rw [hs j (Nat.le_refl _), hj]
      simp
    · rw [cntF_put f j hj n (by omega), decide_eq_false (by omega : ¬ n = j), Bool.or_false]
      omega
end Go.Proofs.YtepfnnhmplaocaaDoor
