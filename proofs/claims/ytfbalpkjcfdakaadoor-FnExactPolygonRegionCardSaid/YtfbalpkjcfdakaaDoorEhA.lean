/- A set is recovered from its edges: the vertical ones to the left of a cell, or to the right, are odd in number exactly if the cell is set. No program's run in it. -/
import Derived.Test.YtfbalpkjcfdakaaDoorEgA
namespace Go.Proofs.YtfbalpkjcfdakaaDoor
open Go.RowKit
set_option linter.unusedVariables false
set_option linter.unusedSimpArgs false

theorem nodup_le {α : Type} [DecidableEq α] : ∀ {l m : List α}, l.Nodup → (∀ x, x ∈ l → x ∈ m) → l.length ≤ m.length
  | [], m, _, _ => by simp
  | a :: l, m, hd, hs => by
    rw [List.nodup_cons] at hd
    have ha := hs a (by simp)
    have := nodup_le (l := l) (m := m.erase a) hd.2 fun x hx => (List.mem_erase_of_ne (show x ≠ a from fun e => hd.1 (by rw [← e]; exact hx))).2 (hs x (by simp [hx]))
    rw [List.length_erase_of_mem ha] at this
    have : 0 < m.length := List.length_pos_of_mem ha
    rw [List.length_cons]; omega
theorem nodup_eq {α : Type} [DecidableEq α] {l m : List α} (h : l.Nodup) (k : m.Nodup) (e : ∀ x, x ∈ l ↔ x ∈ m) : l.length = m.length :=
  Nat.le_antisymm (nodup_le h fun x hx => (e x).1 hx) (nodup_le k fun x hx => (e x).2 hx)
/-- Does the edge pass row y upright? -/
def crs (y : Int) (e : R4) : Bool := decide (e.a = e.c) && (decide (min e.b e.d ≤ y) && decide (y < max e.b e.d))
theorem crs_t {y : Int} {e : R4} : crs y e = true ↔ e.a = e.c ∧ min e.b e.d ≤ y ∧ y < max e.b e.d := by unfold crs; simp only [Bool.and_eq_true, decide_eq_true_eq]
/-- Is the number of upright edges in row y, at x or to the left of it, odd? Those to the right of it? -/
def lft (L : List R4) (x y : Int) : Bool := decide ((L.filter fun e => crs y e && decide (e.a ≤ x)).length % 2 = 1)
def rgt (L : List R4) (x y : Int) : Bool := decide ((L.filter fun e => crs y e && decide (x < e.a)).length % 2 = 1)
theorem runsTo_iff (f : Nat → Bool) (y : Int) : ∀ (k : Nat) (v : Int), v ∈ runsTo f y k ↔ ∃ j : Nat, j < k ∧ v = -40 + (j : Int) ∧ chg f v y = true
  | 0, v => by simp [runsTo]
  | k + 1, v => by
    rw [runsTo]
    split
    · rename_i hc
      rw [List.mem_append, runsTo_iff f y k v, List.mem_singleton]
      constructor
      · rintro (⟨j, h1, h2⟩ | h)
        · exact ⟨j, by omega, h2⟩
        · exact ⟨k, by omega, h, by rw [h]; exact hc⟩
      · rintro ⟨j, h1, h2, h3⟩
        by_cases e : j = k
        · subst e; exact .inr h2
        · exact .inl ⟨j, by omega, h2, h3⟩
    · rename_i hc
      rw [runsTo_iff f y k v]
      constructor
      · rintro ⟨j, h1, h2⟩; exact ⟨j, by omega, h2⟩
      · rintro ⟨j, h1, h2, h3⟩
        by_cases e : j = k
        · subst e; rw [h2] at h3; exact absurd h3 hc
        · exact ⟨j, by omega, h2, h3⟩
theorem runsL_iff (f : Nat → Bool) (y v : Int) (h1 : -40 ≤ v) (h2 : v ≤ 40) : chg f v y = true ↔ v ∈ runsL f y := by
  unfold runsL
  rw [runsTo_iff]
  constructor
  · intro h; exact ⟨(v + 40).toNat, by omega, by omega, h⟩
  · rintro ⟨j, _, _, h⟩; exact h
theorem incL_nodup : ∀ {l : List Int}, incL l → l.Nodup
  | [], _ => by simp
  | a :: l, h => by
    rw [List.nodup_cons]
    refine ⟨fun ha => ?_, incL_nodup h.2⟩
    have := h.1 a ha
    omega
theorem chg_gS {f : Nat → Bool} {x y : Int} : chg f x y = true ↔ gS f 2 x y = true ∨ gS f 3 x y = true := by
  unfold chg gS
  cases hasB f x y <;> cases hasB f (x - 1) y <;> simp
theorem gS_23 {f : Nat → Bool} {x y : Int} (h : gS f 2 x y = true) (k : gS f 3 x y = true) : False := by
  unfold gS at h k
  revert h k
  cases hasB f x y <;> cases hasB f (x - 1) y <;> simp
/-- An edge that passes row y upright. -/
theorem crs_edge {f : Nat → Bool} {e : R4} (h : IsEdge f e) {y : Int} (hc : crs y e = true) : ∃ (o : Nat) (lo hi : Int), (o = 2 ∨ o = 3) ∧ MaxI (gS f o e.a) lo hi ∧ e = mkE o e.a lo hi ∧ lo ≤ y ∧ y < hi := by
  obtain ⟨o, c, lo, hi, ho, hm, rfl⟩ := h
  rw [crs_t] at hc
  have h1 := hm.1
  rcases o4 ho with rfl | rfl | rfl | rfl
  · exact absurd hc.1 (by show ¬ lo = hi; omega)
  · exact absurd hc.1 (by show ¬ hi = lo; omega)
  · refine ⟨2, lo, hi, .inl rfl, hm, rfl, ?_, ?_⟩
    · have : min lo hi ≤ y := hc.2.1; omega
    · have : y < max lo hi := hc.2.2; omega
  · refine ⟨3, lo, hi, .inr rfl, hm, rfl, ?_, ?_⟩
    · have : min hi lo ≤ y := hc.2.1; omega
    · have : y < max hi lo := hc.2.2; omega
theorem crs_one {f : Nat → Bool} {e g : R4} (h : IsEdge f e) (k : IsEdge f g) {y : Int} (hc : crs y e = true) (kc : crs y g = true) (ha : e.a = g.a) : e = g := by
  obtain ⟨o, lo, hi, ho, hm, he, h1, h2⟩ := crs_edge h hc
  obtain ⟨o', lo', hi', ho', hm', he', h1', h2'⟩ := crs_edge k kc
  have g1 := hm.2.1 y h1 h2
  have g2 := hm'.2.1 y h1' h2'
  rw [← ha] at g2
  have hoo : o = o' := by
    rcases ho with rfl | rfl <;> rcases ho' with rfl | rfl
    · rfl
    · exact (gS_23 g1 g2).elim
    · exact (gS_23 g2 g1).elim
    · rfl
  rw [he, he']
  exact edge_eq hm hm' hoo ha h1 h2 h1' h2'
theorem crs_mem {f : Nat → Bool} {L : List R4} (h : EdgesOf f L) {y v : Int} : (∃ e, e ∈ L ∧ crs y e = true ∧ e.a = v) ↔ chg f v y = true := by
  constructor
  · rintro ⟨e, he, hc, rfl⟩
    obtain ⟨o, lo, hi, ho, hm, _, h1, h2⟩ := crs_edge ((h.2 e).1 he) hc
    have g1 := hm.2.1 y h1 h2
    rw [chg_gS]
    rcases ho with rfl | rfl
    · exact .inl g1
    · exact .inr g1
  · intro hc
    rw [chg_gS] at hc
    rcases hc with hc | hc
    · obtain ⟨lo, hi, hm, h1, h2⟩ := MaxI.ex (gS_b f 2 v) hc
      refine ⟨mkE 2 v lo hi, (h.2 _).2 ⟨2, v, lo, hi, by omega, hm, rfl⟩, crs_t.2 ⟨rfl, ?_, ?_⟩, rfl⟩
      · show min lo hi ≤ y; omega
      · show y < max lo hi; omega
    · obtain ⟨lo, hi, hm, h1, h2⟩ := MaxI.ex (gS_b f 3 v) hc
      refine ⟨mkE 3 v lo hi, (h.2 _).2 ⟨3, v, lo, hi, by omega, hm, rfl⟩, crs_t.2 ⟨rfl, ?_, ?_⟩, rfl⟩
      · show min hi lo ≤ y; omega
      · show y < max hi lo; omega
/-- Upright edges of a row, chosen by their columns, are as many as the row's changes there. -/
theorem crs_count {f : Nat → Bool} {L : List R4} (h : EdgesOf f L) (y : Int) (p : Int → Bool) : (L.filter fun e => crs y e && p e.a).length = ((runsL f y).filter p).length := by
  have hm : ((L.filter fun e => crs y e && p e.a).map fun e => e.a).length = ((runsL f y).filter p).length := by
    refine nodup_eq ?_ ((incL_nodup (runsTo_inc f y 81)).sublist (List.filter_sublist ..)) fun v => ?_
    · rw [List.Nodup, List.pairwise_map]
      refine List.Pairwise.imp_of_mem ?_ (h.nodup.sublist (List.filter_sublist ..))
      intro e g he hg hne ha
      rw [List.mem_filter, Bool.and_eq_true] at he hg
      exact hne (crs_one ((h.2 e).1 he.1) ((h.2 g).1 hg.1) he.2.1 hg.2.1 ha)
    · rw [List.mem_map, List.mem_filter]
      constructor
      · rintro ⟨e, he, rfl⟩
        rw [List.mem_filter, Bool.and_eq_true] at he
        have hc := (crs_mem h).1 ⟨e, he.1, he.2.1, rfl⟩
        have hb : -40 ≤ e.a ∧ e.a ≤ 40 := by
          rw [chg_gS] at hc
          rcases hc with hc | hc
          · exact (gS_t hc).2
          · exact (gS_t hc).2
        exact ⟨(runsL_iff f y _ hb.1 hb.2).1 hc, he.2.2⟩
      · rintro ⟨h1, h2⟩
        have hb := runsL_mem f y v h1
        obtain ⟨e, he, hc, rfl⟩ := (crs_mem h).2 ((runsL_iff f y v hb.1 hb.2).2 h1)
        exact ⟨e, List.mem_filter.2 ⟨he, by rw [Bool.and_eq_true]; exact ⟨hc, h2⟩⟩, rfl⟩
  rw [← hm, List.length_map]
theorem runs_left (f : Nat → Bool) (y x : Int) (h1 : -40 ≤ x) (h2 : x ≤ 39) : ((runsL f y).filter fun v => decide (v ≤ x)).length % 2 = 1 ↔ hasB f x y = true := by
  have h := runsTo_filt f y (runsL f y) (runsTo_inc f y 81) (fun u hu => runsL_mem f y u hu) (fun v v1 v2 => runsL_iff f y v v1 v2) ((x + 41).toNat) (by omega)
  have hp := runsTo_par f y ((x + 41).toNat) (by omega)
  rw [show (-40 + (((x + 41).toNat : Nat) : Int) - 1) = x by omega, h] at hp
  rw [hp]
  have e : (runsL f y).filter (fun v => decide (v ≤ x)) = (runsL f y).filter (fun u => decide (u < -40 + (((x + 41).toNat : Nat) : Int))) := by
    congr 1
    funext v
    exact decide_eq_decide.2 (by omega)
  rw [e]
theorem filter_split {α : Type} (p q : α → Bool) : ∀ l : List α, (∀ a, a ∈ l → q a = !p a) → (l.filter p).length + (l.filter q).length = l.length
  | [], _ => rfl
  | a :: l, h => by
    have ih := filter_split p q l fun b hb => h b (by simp [hb])
    have ha := h a (by simp)
    rw [List.filter_cons, List.filter_cons, ha]
    cases p a <;> simp <;> omega
theorem lft_has {f : Nat → Bool} {L : List R4} (h : EdgesOf f L) {x y : Int} (h1 : -40 ≤ x) (h2 : x ≤ 39) : lft L x y = hasB f x y := by
  unfold lft
  rw [crs_count h y fun v => decide (v ≤ x), Bool.eq_iff_iff, decide_eq_true_eq]
  exact runs_left f y x h1 h2
theorem rgt_has {f : Nat → Bool} {L : List R4} (h : EdgesOf f L) {x y : Int} (h1 : -40 ≤ x) (h2 : x ≤ 39) : rgt L x y = hasB f x y := by
  unfold rgt
  rw [crs_count h y fun v => decide (x < v), Bool.eq_iff_iff, decide_eq_true_eq, ← runs_left f y x h1 h2]
  have hs := filter_split (fun v => decide (v ≤ x)) (fun v => decide (x < v)) (runsL f y) fun v _ => by
    rw [Bool.eq_iff_iff]; simp
  have he := runsL_even f y
  omega
end Go.Proofs.YtfbalpkjcfdakaaDoor
