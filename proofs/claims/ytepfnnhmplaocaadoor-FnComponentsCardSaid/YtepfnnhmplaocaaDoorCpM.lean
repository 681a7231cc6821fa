/- The regions of the parts of a set have no more rectangles than the region. No program's run in it. -/
import Derived.Test.YtepfnnhmplaocaaDoorCpA
namespace Go.Proofs.YtepfnnhmplaocaaDoor
open Go.RowKit
set_option linter.unusedVariables false
set_option linter.unusedSimpArgs false

theorem bandE_ne (f : Nat → Bool) (y : Int) : ∀ (n : Nat) (e : Int), 40 - e ≤ n → bandE f y n e < 40 → runsL f (bandE f y n e) ≠ runsL f y
  | 0, e, hn, h => by rw [bandE] at h; omega
  | n + 1, e, hn, h => by
    rw [bandE] at h ⊢
    split
    · rename_i hc
      rw [if_pos hc] at h
      exact bandE_ne f y n (e + 1) (by omega) h
    · rename_i hc
      rw [if_neg hc] at h
      exact fun k => hc ⟨h, k⟩
/-- A band ends where the row differs. -/
theorem canonF_end_ne (f : Nat → Bool) : ∀ (n : Nat) (y : Int), -40 ≤ y → ∀ r, r ∈ canonF f n y → r.d < 40 → runsL f r.d ≠ runsL f r.b
  | 0, y, _, r, h, _ => absurd h (by simp [canonF])
  | n + 1, y, hy, r, h, hd => by
    rw [canonF] at h
    split at h
    · have hge := bandE_ge f y 80 (y + 1)
      rcases List.mem_append.1 h with h | h
      · obtain ⟨h1, h2, _, _⟩ := pairsR_mem _ _ _ _ h
        rw [h2] at hd ⊢
        rw [h1]
        exact bandE_ne f y 80 (y + 1) (by omega) hd
      · exact canonF_end_ne f n _ (by omega) r h hd
    · exact absurd h (by simp)
theorem has_canonL {f : Nat → Bool} {x y : Int} : hasB f x y = true ↔ ∃ r, r ∈ canonL f ∧ r.a ≤ x ∧ x < r.c ∧ r.b ≤ y ∧ y < r.d := by
  constructor
  · intro h
    have hc := hasB_chip h
    rw [← inR_canonL f x y hc] at h
    unfold inR at h
    rw [List.any_eq_true] at h
    obtain ⟨r, h1, h2⟩ := h
    simp only [Bool.and_eq_true, decide_eq_true_eq] at h2
    exact ⟨r, h1, h2.1.1.1, h2.1.1.2, h2.1.2, h2.2⟩
  · rintro ⟨r, h1, h2, h3, h4, h5⟩
    obtain ⟨v1, v2, v3, v4, v5, v6⟩ := rvB_t (canonL_valid f r h1)
    rw [← inR_canonL f x y ⟨by omega, by omega⟩]
    unfold inR
    rw [List.any_eq_true]
    exact ⟨r, h1, by simp [h2, h3, h4, h5]⟩
theorem canonL_two {f : Nat → Bool} {r s : R4} (hr : r ∈ canonL f) (hs : s ∈ canonL f) : r = s ∨ ordR r s ∨ ordR s r := by
  have ho := canonL_ord f
  obtain ⟨i, hi, rfl⟩ := List.mem_iff_getElem.1 hr
  obtain ⟨j, hj, rfl⟩ := List.mem_iff_getElem.1 hs
  rw [List.pairwise_iff_getElem] at ho
  rcases Nat.lt_trichotomy i j with e | e | e
  · exact .inr (.inl (ho i j hi hj e))
  · subst e; exact .inl rfl
  · exact .inr (.inr (ho j i hj hi e))
/-- Does a rectangle of the set's region begin at this cell? -/
def crnB (f : Nat → Bool) (x y : Int) : Prop := hasB f x y = true ∧ hasB f (x - 1) y = false ∧ (y = -40 ∨ ∃ u, hasB f u y ≠ hasB f u (y - 1))
theorem runsTo_ext {f : Nat → Bool} {y z : Int} (h : ∀ u, hasB f u y = hasB f u z) : ∀ k, runsTo f y k = runsTo f z k
  | 0 => rfl
  | k + 1 => by
    have e : chg f (-40 + (k : Int)) y = chg f (-40 + (k : Int)) z := by unfold chg; rw [h, h]
    rw [runsTo, runsTo, runsTo_ext h k, e]
theorem runsL_has {f : Nat → Bool} {y z : Int} (h1 : -40 ≤ y) (h2 : y < 40) (h3 : -40 ≤ z) (h4 : z < 40) (h : runsL f y = runsL f z) (u : Int) : hasB f u y = hasB f u z := by
  by_cases hu : -40 ≤ u ∧ u ≤ 39
  · rw [← inP_runs f u y hu.1 hu.2, ← inP_runs f u z hu.1 hu.2, h]
  · rw [hasB_out (fun e => hu e.1), hasB_out (fun e => hu e.1)]
theorem crn_of {f : Nat → Bool} {r : R4} (hr : r ∈ canonL f) : crnB f r.a r.b := by
  obtain ⟨v1, v2, v3, v4, v5, v6⟩ := rvB_t (canonL_valid f r hr)
  refine ⟨has_canonL.2 ⟨r, hr, by omega, by omega, by omega, by omega⟩, ?_, ?_⟩
  · cases h : hasB f (r.a - 1) r.b with
    | false => rfl
    | true =>
      obtain ⟨s, hs, s1, s2, s3, s4⟩ := has_canonL.1 h
      rcases canonL_two hr hs with e | (⟨e1, e2, e3⟩ | e) | (⟨e1, e2, e3⟩ | e)
      · subst e; omega
      · omega
      · omega
      · omega
      · omega
  · by_cases hb : r.b = -40
    · exact .inl hb
    · refine .inr (Classical.byContradiction fun hn => ?_)
      have hall : ∀ u, hasB f u r.b = hasB f u (r.b - 1) := fun u => Classical.byContradiction fun h => hn ⟨u, h⟩
      have h1 : hasB f r.a (r.b - 1) = true := by rw [← hall]; exact has_canonL.2 ⟨r, hr, by omega, by omega, by omega, by omega⟩
      obtain ⟨s, hs, s1, s2, s3, s4⟩ := has_canonL.1 h1
      have hd : s.d = r.b := by
        rcases canonL_two hs hr with e | (⟨e1, e2, e3⟩ | e) | (⟨e1, e2, e3⟩ | e)
        · subst e; omega
        · omega
        · omega
        · omega
        · omega
      have hne := canonF_end_ne f 80 (-40) (by omega) s hs (by omega)
      -- rows s.b and s.d - 1 are alike
      have hsame : ∀ u, hasB f u s.b = hasB f u (s.d - 1) := by
        intro u
        obtain ⟨t1, t2, t3, t4, t5, t6⟩ := rvB_t (canonL_valid f s hs)
        rw [Bool.eq_iff_iff, has_canonL, has_canonL]
        constructor
        · rintro ⟨q, hq, q1, q2, q3, q4⟩
          refine ⟨q, hq, q1, q2, ?_, ?_⟩ <;> rcases canonL_two hq hs with e | (⟨e1, e2, e3⟩ | e) | (⟨e1, e2, e3⟩ | e) <;> (try subst e) <;> omega
        · rintro ⟨q, hq, q1, q2, q3, q4⟩
          refine ⟨q, hq, q1, q2, ?_, ?_⟩ <;> rcases canonL_two hq hs with e | (⟨e1, e2, e3⟩ | e) | (⟨e1, e2, e3⟩ | e) <;> (try subst e) <;> omega
      refine hne (runsTo_ext (fun u => ?_) 81)
      rw [hd, hall u, hsame u, hd]
theorem crn_to {f : Nat → Bool} {x y : Int} (h : crnB f x y) : ∃ r, r ∈ canonL f ∧ r.a = x ∧ r.b = y := by
  obtain ⟨h1, h2, h3⟩ := h
  obtain ⟨r, hr, r1, r2, r3, r4⟩ := has_canonL.1 h1
  refine ⟨r, hr, ?_, ?_⟩
  · by_cases e : r.a = x
    · exact e
    · have : hasB f (x - 1) y = true := has_canonL.2 ⟨r, hr, by omega, by omega, r3, r4⟩
      rw [h2] at this; cases this
  · by_cases e : r.b = y
    · exact e
    · exfalso
      obtain ⟨v1, v2, v3, v4, v5, v6⟩ := rvB_t (canonL_valid f r hr)
      rcases h3 with h3 | ⟨u, hu⟩
      · omega
      · apply hu
        rw [Bool.eq_iff_iff, has_canonL, has_canonL]
        constructor
        · rintro ⟨q, hq, q1, q2, q3, q4⟩
          refine ⟨q, hq, q1, q2, ?_, ?_⟩ <;> rcases canonL_two hq hr with e | (⟨e1, e2, e3⟩ | e) | (⟨e1, e2, e3⟩ | e) <;> (try subst e) <;> omega
        · rintro ⟨q, hq, q1, q2, q3, q4⟩
          refine ⟨q, hq, q1, q2, ?_, ?_⟩ <;> rcases canonL_two hq hr with e | (⟨e1, e2, e3⟩ | e) | (⟨e1, e2, e3⟩ | e) <;> (try subst e) <;> omega
/-- Where a part's region has a rectangle, the whole region has one. -/
theorem crn_part {f : Nat → Bool} {wide : Bool} {x y u v : Int} (h : crnB (partF f wide x y) u v) : crnB f u v := by
  obtain ⟨h1, h2, h3⟩ := h
  have c1 := has_part.1 h1
  refine ⟨c1.right, ?_, ?_⟩
  · cases hf : hasB f (u - 1) v with
    | false => rfl
    | true =>
      have : hasB (partF f wide x y) (u - 1) v = true := has_part.2 (.step c1 ⟨by omega, by omega, .inr (.inr rfl)⟩ hf)
      rw [h2] at this; cases this
  · rcases h3 with h3 | ⟨a, ha⟩
    · exact .inl h3
    · refine .inr ⟨a, fun e => ha ?_⟩
      rw [Bool.eq_iff_iff, has_part, has_part]
      constructor
      · intro c; exact .step c ⟨by omega, by omega, .inr (.inl rfl)⟩ (by rw [← e]; exact c.right)
      · intro c; exact .step c ⟨by omega, by omega, .inr (.inl rfl)⟩ (by rw [e]; exact c.right)
theorem nodup_len : ∀ {l m : List (Int × Int)}, l.Nodup → (∀ x, x ∈ l → x ∈ m) → l.length ≤ m.length
  | [], m, _, _ => by simp
  | a :: l, m, hd, hs => by
    rw [List.nodup_cons] at hd
    have ha := hs a (by simp)
    have := nodup_len (l := l) (m := m.erase a) hd.2 fun x hx => (List.mem_erase_of_ne (show x ≠ a from fun e => hd.1 (by rw [← e]; exact hx))).2 (hs x (by simp [hx]))
    rw [List.length_erase_of_mem ha] at this
    have : 0 < m.length := List.length_pos_of_mem ha
    rw [List.length_cons]; omega
/-- The corners of a region's rectangles. -/
def crnL (f : Nat → Bool) : List (Int × Int) := (canonL f).map fun r => (r.a, r.b)
theorem crnL_mem {f : Nat → Bool} {p : Int × Int} : p ∈ crnL f ↔ crnB f p.1 p.2 := by
  unfold crnL
  rw [List.mem_map]
  constructor
  · rintro ⟨r, hr, rfl⟩; exact crn_of hr
  · intro h
    obtain ⟨r, hr, h1, h2⟩ := crn_to h
    exact ⟨r, hr, by rw [h1, h2]⟩
theorem crnL_nodup (f : Nat → Bool) : (crnL f).Nodup := by
  unfold crnL
  rw [List.Nodup, List.pairwise_map]
  refine List.Pairwise.imp_of_mem ?_ (canonL_ord f)
  intro r s hr hs ho e
  obtain ⟨v1, v2, v3, v4, v5, v6⟩ := rvB_t (canonL_valid f r hr)
  rw [Prod.mk.injEq] at e
  rcases ho with ⟨e1, e2, e3⟩ | e3 <;> omega
/-- Together the parts' regions have no more rectangles than the region. -/
theorem parts_len (f : Nat → Bool) (wide : Bool) : ((startsTo f wide 6400).map fun s => (canonL (partF f wide (cxN s) (cyN s))).length).sum ≤ (canonL f).length := by
  have hnd : ∀ l : List Nat, l.Pairwise (fun s t => partF f wide (cxN s) (cyN s) t = false) → (∀ s, s ∈ l → s < 6400 ∧ f s = true) → (l.flatMap fun s => crnL (partF f wide (cxN s) (cyN s))).Nodup := by
    intro l
    induction l with
    | nil => intro _ _; simp
    | cons s l ih =>
      intro hp hm
      rw [List.pairwise_cons] at hp
      rw [List.flatMap_cons, List.nodup_append]
      refine ⟨crnL_nodup _, ih hp.2 (fun t ht => hm t (by simp [ht])), ?_⟩
      intro p hp1 q hq e
      subst e
      rw [List.mem_flatMap] at hq
      obtain ⟨t, ht, hq⟩ := hq
      have c1 := has_part.1 (crnL_mem.1 hp1).1
      have c2 := has_part.1 (crnL_mem.1 hq).1
      have c := c1.trans c2.symm
      have := hp.1 t ht
      rw [← Bool.not_eq_true, partF_t] at this
      exact this c
  have hsum : ∀ l : List Nat, (l.map fun s => (canonL (partF f wide (cxN s) (cyN s))).length).sum = (l.flatMap fun s => crnL (partF f wide (cxN s) (cyN s))).length := by
    intro l
    induction l with
    | nil => rfl
    | cons s l ih => rw [List.map_cons, List.sum_cons, List.flatMap_cons, List.length_append, ih]; unfold crnL; rw [List.length_map]
  rw [hsum]
  have hl : (crnL f).length = (canonL f).length := by unfold crnL; rw [List.length_map]
  rw [← hl]
  refine nodup_len (hnd _ ((startsTo_apart (f := f) (wide := wide) (n := 6400)).imp fun h => h.2) fun s hs => startsTo_mem hs) fun p hp => ?_
  rw [List.mem_flatMap] at hp
  obtain ⟨s, hs, hp⟩ := hp
  exact crnL_mem.2 (crn_part (crnL_mem.1 hp))
/-- A choice among them has no more either. -/
theorem sum_filter_le {α : Type} (g : α → Nat) (p : α → Bool) : ∀ l : List α, ((l.filter p).map g).sum ≤ (l.map g).sum
  | [] => by simp
  | a :: l => by
    have := sum_filter_le g p l
    rw [List.filter_cons]
    split
    · rw [List.map_cons, List.sum_cons, List.map_cons, List.sum_cons]; omega
    · rw [List.map_cons, List.sum_cons]; omega
end Go.Proofs.YtepfnnhmplaocaaDoor
