/- A set is recovered from its edges: the vertical ones to the left of a cell, or to the right, are odd in number exactly if the cell is set. No program's run in it. -/
import Derived.Test.YtfbalpkjcfdakaaGreatDoorZA
namespace Go.Proofs.YtfbalpkjcfdakaaGreatDoor
open Go.RowKit
set_option linter.unusedVariables false
set_option linter.unusedSimpArgs false

theorem nodup_le {α : Type} [DecidableEq α] : ∀ {l m : List α}, l.Nodup → (∀ x, x ∈ l → x ∈ m) → l.length ≤ m.length
  | [], m, _, _ => by simp
  | a :: l, m, hd, hs => by
    rw [List.nodup_cons] at hd
    have ha := hs a (by simp)
    have := nodup_le (l := l) (m := m.erase a) hd.2 fun x hx => (List.mem_erase_of_ne (show x ≠ a from fun e => hd.1 (by rw [← e]; exact hx))).2 (hs x (by simp [hx]))
    rw [List.length_erase_of_mem ha] at this
    have : 0 < m.length := List.length_pos_of_mem ha
    rw [List.length_cons]; omega
theorem nodup_eq {α : Type} [DecidableEq α] {l m : List α} (h : l.Nodup) (k : m.Nodup) (e : ∀ x, x ∈ l ↔ x ∈ m) : l.length = m.length :=
  Nat.le_antisymm (nodup_le h fun x hx => (e x).1 hx) (nodup_le k fun x hx => (e x).2 hx)
/-- Does the edge pass row y upright? -/
def crs (y : Int) (e : R4) : Bool := decide (e.a = e.c) && (decide (min e.b e.d ≤ y) && decide (y < max e.b e.d))
theorem crs_t {y : Int} {e : R4} : crs y e = true ↔ e.a = e.c ∧ min e.b e.d ≤ y ∧ y < max e.b e.d := by unfold crs; simp only [Bool.and_eq_true, decide_eq_true_eq]
/-- Is the number of upright edges in row y, at x or to the left of it, odd? Those to the right of it? -/
def lft (L : List R4) (x y : Int) : Bool := decide ((L.filter fun e => crs y e && decide (e.a ≤ x)).length % 2 = 1)
def rgt (L : List R4) (x y : Int) : Bool := decide ((L.filter fun e => crs y e && decide (x < e.a)).length % 2 = 1)
theorem runsTo_iff (f : Nat → Bool) (y : Int) : ∀ (k : Nat) (v : Int), v ∈ runsTo f y k ↔ ∃ j : Nat, j < k ∧ v = -40 + (j : Int) ∧ chg f v y = true
  | 0, v => by simp [runsTo]
  | k + 1, v => by
    rw [runsTo]
    split
    · rename_i hc
      rw [List.mem_append, runsTo_iff f y k v, List.mem_singleton]
      constructor
      · rintro (⟨j, h1, h2⟩ | h)
        · exact ⟨j, by omega, h2⟩
        · exact ⟨k, by omega, h, by rw [h]; exact hc⟩
      · rintro ⟨j, h1, h2, h3⟩
        by_cases e : j = k
        · subst e; exact .inr h2
        · exact .inl ⟨j, by omega, h2, h3⟩
    · rename_i hc
      rw [runsTo_iff f y k v]
      constructor
      · rintro ⟨j, h1, h2⟩; exact ⟨j, by omega, h2⟩
      · rintro ⟨j, h1, h2, h3⟩
        by_cases e : j = k
        · subst e; rw [h2] at h3; exact absurd h3 hc
        · exact ⟨j, by omega, h2, h3⟩
theorem runsL_iff (f : Nat → Bool) (y v : Int) (h1 : -40 ≤ v) (h2 : v ≤ 40) : chg f v y = true ↔ v ∈ runsL f y := by
  unfold runsL
  rw [runsTo_iff]
  constructor
  · intro h; exact ⟨(v + 40).toNat, by omega, by omega, h⟩
  · rintro ⟨j, _, _, h⟩; exact h
theorem incL_nodupE : ∀ {l : List Int}, incL l → l.Nodup
  | [], _ => by simp
  | a :: l, h => by
    rw [List.nodup_cons]
    refine ⟨fun ha => ?_, incL_nodupE h.2⟩
    have := h.1 a ha
    omega
theorem chg_gS {f : Nat → Bool} {x y : Int} : chg f x y = true ↔ gS f 2 x y = true ∨ gS f 3 x y = true := by
  unfold chg gS
  cases hasB f x y <;> cases hasB f (x - 1) y <;> simp
theorem gS_23 {f : Nat → Bool} {x y : Int} (h : gS f 2 x y = true) (k : gS f 3 x y = true) : False := by
  unfold gS at h k
  revert h k
  cases hasB f x y <;> cases hasB f (x - 1) y <;> simp
/-- An edge that passes row y upright. -/
theorem crs_edge {f : Nat → Bool} {e : R4} (h : IsEdge f e) {y : Int} (hc : crs y e = true) : ∃ (o : Nat) (lo hi : Int), (o = 2 ∨ o = 3) ∧ MaxI (gS f o e.a) lo hi ∧ e = mkE o e.a lo hi ∧ lo ≤ y ∧ y < hi := by
  obtain ⟨o, c, lo, hi, ho, hm, rfl⟩ := h
  rw [crs_t] at hc
  have h1 := hm.1
  rcases o4 ho with rfl | rfl | rfl | rfl
  · exact absurd hc.1 (by show ¬ lo = hi; omega)
  · exact absurd hc.1 (by show ¬ hi = lo; omega)
  · refine ⟨2, lo, hi, .inl rfl, hm, rfl, ?_, ?_⟩
    · have : min lo hi ≤ y := hc.2.1; omega
    · have : y < max lo hi := hc.2.2; omega
  · refine ⟨3, lo, hi, .inr rfl, hm, rfl, ?_, ?_⟩
    · have : min hi lo ≤ y := hc.2.1; omega
    · have : y < max hi lo := hc.2.2; omega
theorem crs_one {f : Nat → Bool} {e g : R4} (h : IsEdge f e) (k : IsEdge f g) {y : Int} (hc : crs y e = true) (kc : crs y g = true) (ha : e.a = g.a) : e = g := by
  obtain ⟨o, lo, hi, ho, hm, he, h1, h2⟩ := crs_edge h hc
  obtain ⟨o', lo', hi', ho', hm', he', h1', h2'⟩ := crs_edge k kc
  have g1 := hm.2.1 y h1 h2
  have g2 := hm'.2.1 y h1' h2'
  rw [← ha] at g2
  have hoo : o = o' := by
    rcases ho with rfl | rfl <;> rcases ho' with rfl | rfl
    · rfl
    · exact (gS_23 g1 g2).elim
    · exact (gS_23 g2 g1).elim
    · rfl
  rw [he, he']
  exact edge_eq hm hm' hoo ha h1 h2 h1' h2'
theorem crs_mem {f : Nat → Bool} {L : List R4} (h : EdgesOf f L) {y v : Int} : (∃ e, e ∈ L ∧ crs y e = true ∧ e.a = v) ↔ chg f v y = true := by
  constructor
  · rintro ⟨e, he, hc, rfl⟩
    obtain ⟨o, lo, hi, ho, hm, _, h1, h2⟩ := crs_edge ((h.2 e).1 he) hc
    have g1 := hm.2.1 y h1 h2
    rw [chg_gS]
    rcases ho with rfl | rfl
    · exact .inl g1
    · exact .inr g1
  · intro hc
    rw [chg_gS] at hc
    rcases hc with hc | hc
    · obtain ⟨lo, hi, hm, h1, h2⟩ := MaxI.ex (gS_b f 2 v) hc
      refine ⟨mkE 2 v lo hi, (h.2 _).2 ⟨2, v, lo, hi, by omega, hm, rfl⟩, crs_t.2 ⟨rfl, ?_, ?_⟩, rfl⟩
      · show min lo hi ≤ y; omega
      · show y < max lo hi; omega
    · obtain ⟨lo, hi, hm, h1, h2⟩ := MaxI.ex (gS_b f 3 v) hc
      refine ⟨mkE 3 v lo hi, (h.2 _).2 ⟨3, v, lo, hi, by omega, hm, rfl⟩, crs_t.2 ⟨rfl, ?_, ?_⟩, rfl⟩
      · show min hi lo ≤ y; omega
      · show y < max hi lo; omega
/-- Upright edges of a row, chosen by their columns, are as many as the row's changes there. -/
theorem crs_count {f : Nat → Bool} {L : List R4} (h : EdgesOf f L) (y : Int) (p : Int → Bool) : (L.filter fun e => crs y e && p e.a).length = ((runsL f y).filter p).length := by
  have hm : ((L.filter fun e => crs y e && p e.a).map fun e => e.a).length = ((runsL f y).filter p).length := by
    refine nodup_eq ?_ ((incL_nodupE (runsTo_inc f y 81)).sublist (List.filter_sublist ..)) fun v => ?_
    · rw [List.Nodup, List.pairwise_map]
      refine List.Pairwise.imp_of_mem ?_ (h.nodup.sublist (List.filter_sublist ..))
      intro e g he hg hne ha
      rw [List.mem_filter, Bool.and_eq_true] at he hg
      exact hne (crs_one ((h.2 e).1 he.1) ((h.2 g).1 hg.1) he.2.1 hg.2.1 ha)
    · rw [List.mem_map, List.mem_filter]
      constructor
      · rintro ⟨e, he, rfl⟩
        rw [List.mem_filter, Bool.and_eq_true] at he
        have hc := (crs_mem h).1 ⟨e, he.1, he.2.1, rfl⟩
        have hb : -40 ≤ e.a ∧ e.a ≤ 40 := by
          rw [chg_gS] at hc
          rcases hc with hc | hc
          · exact (gS_t hc).2
          · exact (gS_t hc).2
        exact ⟨(runsL_iff f y _ hb.1 hb.2).1 hc, he.2.2⟩
      · rintro ⟨h1, h2⟩
        have hb := runsL_mem f y v h1
        obtain ⟨e, he, hc, rfl⟩ := (crs_mem h).2 ((runsL_iff f y v hb.1 hb.2).2 h1)
        exact ⟨e, List.mem_filter.2 ⟨he, by rw [Bool.and_eq_true]; exact ⟨hc, h2⟩⟩, rfl⟩
  rw [← hm, List.length_map]
theorem runs_left (f : Nat → Bool) (y x : Int) (h1 : -40 ≤ x) (h2 : x ≤ 39) : ((runsL f y).filter fun v => decide (v ≤ x)).length % 2 = 1 ↔ hasB f x y = true := by
  have h := runsTo_filt f y (runsL f y) (runsTo_inc f y 81) (fun u hu => runsL_mem f y u hu) (fun v v1 v2 => runsL_iff f y v v1 v2) ((x + 41).toNat) (by omega)
  have hp := runsTo_par f y ((x + 41).toNat) (by omega)
  rw [show (-40 + (((x + 41).toNat : Nat) : Int) - 1) = x by omega, h] at hp
  rw [hp]
  have e : (runsL f y).filter (fun v => decide (v ≤ x)) = (runsL f y).filter (fun u => decide (u < -40 + (((x + 41).toNat : Nat) : Int))) := by
    congr 1
    funext v
    exact decide_eq_decide.2 (by omega)
  rw [e]
theorem filter_split {α : Type} (p q : α → Bool) : ∀ l : List α, (∀ a, a ∈ l → q a = !p a) → (l.filter p).length + (l.filter q).length = l.length
  | [], _ => rfl
  | a :: l, h => by
    have ih := filter_split p q l fun b hb => h b (by simp [hb])
    have ha := h a (by simp)
    rw [List.filter_cons, List.filter_cons, ha]
    cases p a <;> simp <;> omega
theorem lft_has {f : Nat → Bool} {L : List R4} (h : EdgesOf f L) {x y : Int} (h1 : -40 ≤ x) (h2 : x ≤ 39) : lft L x y = hasB f x y := by
  unfold lft
  rw [crs_count h y fun v => decide (v ≤ x), Bool.eq_iff_iff, decide_eq_true_eq]
  exact runs_left f y x h1 h2
theorem rgt_has {f : Nat → Bool} {L : List R4} (h : EdgesOf f L) {x y : Int} (h1 : -40 ≤ x) (h2 : x ≤ 39) : rgt L x y = hasB f x y := by
  unfold rgt
  rw [crs_count h y fun v => decide (x < v), Bool.eq_iff_iff, decide_eq_true_eq, ← runs_left f y x h1 h2]
  have hs := filter_split (fun v => decide (v ≤ x)) (fun v => decide (x < v)) (runsL f y) fun v _ => by
    rw [Bool.eq_iff_iff]; simp
  have he := runsL_even f y
  omega
end Go.Proofs.YtfbalpkjcfdakaaGreatDoor

namespace Go.Proofs.YtfbalpkjcfdakaaGreatDoor
open Go.RowKit
set_option linter.unusedVariables false
set_option linter.unusedSimpArgs false

/-- The places of the changes of all rows. -/
def chgL (f : Nat → Bool) : List (Int × Int) := (List.range 80).flatMap fun j : Nat => (runsL f (-40 + (j : Int))).map fun v => (v, -40 + (j : Int))
theorem flat_le {α β : Type} (g : α → List β) (m : Nat) : ∀ l : List α, (∀ a, a ∈ l → (g a).length ≤ m) → (l.flatMap g).length ≤ m * l.length
  | [], _ => by simp
  | a :: l, h => by
    have h1 := h a (by simp)
    have h2 := flat_le g m l fun b hb => h b (by simp [hb])
    rw [List.flatMap_cons, List.length_append, List.length_cons, Nat.mul_succ]
    omega
theorem chgL_len (f : Nat → Bool) : (chgL f).length ≤ 6400 := by
  have := flat_le (fun j : Nat => (runsL f (-40 + (j : Int))).map fun v => (v, -40 + (j : Int))) 80 (List.range 80) fun j _ => by rw [List.length_map]; exact runsL_len f _
  rw [List.length_range] at this
  exact this
theorem chgL_mem {f : Nat → Bool} {v y : Int} (h1 : -40 ≤ y) (h2 : y ≤ 39) (v1 : -40 ≤ v) (v2 : v ≤ 40) (h : chg f v y = true) : (v, y) ∈ chgL f := by
  unfold chgL
  rw [List.mem_flatMap]
  refine ⟨(y + 40).toNat, List.mem_range.2 (by omega), ?_⟩
  rw [List.mem_map]
  refine ⟨v, ?_, ?_⟩
  · rw [show -40 + (((y + 40).toNat : Nat) : Int) = y by omega]
    exact (runsL_iff f y v v1 v2).1 h
  · rw [show -40 + (((y + 40).toNat : Nat) : Int) = y by omega]
/-- The set with columns and rows exchanged. -/
def flipF (f : Nat → Bool) (k : Nat) : Bool := hasB f (((k / 80 : Nat) : Int) - 40) (((k % 80 : Nat) : Int) - 40)
theorem has_flip (f : Nat → Bool) (x y : Int) : hasB (flipF f) y x = hasB f x y := by
  by_cases h : (-40 ≤ y ∧ y ≤ 39) ∧ (-40 ≤ x ∧ x ≤ 39)
  · rw [hasB_in h]
    unfold flipF
    rw [(cIx_back h.1.1 h.1.2 h.2.1 h.2.2).1, (cIx_back h.1.1 h.1.2 h.2.1 h.2.2).2]
  · rw [hasB_out h, hasB_out (fun k => h ⟨k.2, k.1⟩)]
theorem gS_flip {f : Nat → Bool} {x y : Int} : (gS f 0 y x = true ∨ gS f 1 y x = true) ↔ chg (flipF f) y x = true := by
  unfold chg gS
  rw [has_flip, has_flip]
  cases hasB f x y <;> cases hasB f x (y - 1) <;> simp
theorem edges_max {f : Nat → Bool} {L : List R4} (h : EdgesOf f L) : L.length ≤ 12800 := by
  have hs := filter_split (fun e : R4 => decide (e.a = e.c)) (fun e : R4 => !decide (e.a = e.c)) L fun e _ => rfl
  have h1 : (L.filter fun e => decide (e.a = e.c)).length ≤ 6400 := by
    have hm : ((L.filter fun e => decide (e.a = e.c)).map fun e => (e.a, min e.b e.d)).length ≤ (chgL f).length := by
      have hc : ∀ e, e ∈ L → e.a = e.c → crs (min e.b e.d) e = true := fun e he ha => by
        obtain ⟨o, c, lo, hi, ho, hmx, rfl⟩ := (h.2 e).1 he
        have h1 := hmx.1
        rw [crs_t]
        refine ⟨ha, by omega, ?_⟩
        rcases o4 ho with rfl | rfl | rfl | rfl
        · exact absurd ha (by show ¬ lo = hi; omega)
        · exact absurd ha (by show ¬ hi = lo; omega)
        · show min lo hi < max lo hi; omega
        · show min hi lo < max hi lo; omega
      refine nodup_le ?_ fun v hv => ?_
      · rw [List.Nodup, List.pairwise_map]
        refine List.Pairwise.imp_of_mem ?_ (h.nodup.sublist (List.filter_sublist ..))
        intro e g he hg hne ha
        rw [List.mem_filter, decide_eq_true_eq] at he hg
        rw [Prod.mk.injEq] at ha
        exact hne (crs_one ((h.2 e).1 he.1) ((h.2 g).1 hg.1) (hc e he.1 he.2) (by rw [ha.2]; exact hc g hg.1 hg.2) ha.1)
      · rw [List.mem_map] at hv
        obtain ⟨e, he, rfl⟩ := hv
        rw [List.mem_filter, decide_eq_true_eq] at he
        have hch := (crs_mem h).1 ⟨e, he.1, hc e he.1 he.2, rfl⟩
        have hb := hch
        rw [chg_gS] at hb
        rcases hb with hb | hb <;> exact chgL_mem (gS_t hb).1.1 (gS_t hb).1.2 (gS_t hb).2.1 (gS_t hb).2.2 hch
    have := chgL_len f
    rw [List.length_map] at hm
    omega
  have h2 : (L.filter fun e => !decide (e.a = e.c)).length ≤ 6400 := by
    have key : ∀ e, e ∈ L → ¬ e.a = e.c → ∃ (o : Nat) (lo hi : Int), (o = 0 ∨ o = 1) ∧ MaxI (gS f o e.b) lo hi ∧ e = mkE o e.b lo hi ∧ min e.a e.c = lo := fun e he ha => by
      obtain ⟨o, c, lo, hi, ho, hmx, rfl⟩ := (h.2 e).1 he
      have h1 := hmx.1
      rcases o4 ho with rfl | rfl | rfl | rfl
      · exact ⟨0, lo, hi, .inl rfl, hmx, rfl, by show min lo hi = lo; omega⟩
      · exact ⟨1, lo, hi, .inr rfl, hmx, rfl, by show min hi lo = lo; omega⟩
      · exact absurd rfl ha
      · exact absurd rfl ha
    have hm : ((L.filter fun e => !decide (e.a = e.c)).map fun e => (e.b, min e.a e.c)).length ≤ (chgL (flipF f)).length := by
      refine nodup_le ?_ fun v hv => ?_
      · rw [List.Nodup, List.pairwise_map]
        refine List.Pairwise.imp_of_mem ?_ (h.nodup.sublist (List.filter_sublist ..))
        intro e g he hg hne ha
        rw [List.mem_filter] at he hg
        rw [Prod.mk.injEq] at ha
        obtain ⟨o, lo, hi, ho, hm, ee, e1⟩ := key e he.1 (by simpa using he.2)
        obtain ⟨o', lo', hi', ho', hm', eg, g1⟩ := key g hg.1 (by simpa using hg.2)
        rw [e1, g1] at ha
        have w1 := hm.1
        have w2 := hm'.1
        have s1 := hm.2.1 lo (Int.le_refl _) w1
        have s2 := hm'.2.1 lo' (Int.le_refl _) w2
        rw [← ha.1, ← ha.2] at s2
        have hoo : o = o' := by
          rcases ho with rfl | rfl <;> rcases ho' with rfl | rfl
          · rfl
          · exfalso; unfold gS at s1 s2; revert s1 s2; cases hasB f lo e.b <;> cases hasB f lo (e.b - 1) <;> simp
          · exfalso; unfold gS at s1 s2; revert s1 s2; cases hasB f lo e.b <;> cases hasB f lo (e.b - 1) <;> simp
          · rfl
        have hl := ha.2
        apply hne
        rw [ee, eg]
        exact edge_eq hm hm' hoo ha.1 (Int.le_refl _) w1 (by omega) (by omega)
      · rw [List.mem_map] at hv
        obtain ⟨e, he, rfl⟩ := hv
        rw [List.mem_filter] at he
        obtain ⟨o, lo, hi, ho, hm, ee, e1⟩ := key e he.1 (by simpa using he.2)
        rw [e1]
        have s1 := hm.2.1 lo (Int.le_refl _) hm.1
        have hb := gS_t s1
        refine chgL_mem hb.1.1 hb.1.2 hb.2.1 hb.2.2 (gS_flip.1 ?_)
        rcases ho with rfl | rfl
        · exact .inl s1
        · exact .inr s1
    have := chgL_len (flipF f)
    rw [List.length_map] at hm
    omega
  omega
end Go.Proofs.YtfbalpkjcfdakaaGreatDoor

namespace Go.Proofs.YtfbalpkjcfdakaaGreatDoor
open Go.RowKit
set_option linter.unusedVariables false
set_option linter.unusedSimpArgs false

def flatB (X Y : Nat → Int) (i j k : Nat) : Bool := decide (Y i = Y j) && !decide (X i = X j) && decide (X j = X k) && !decide (Y j = Y k)
theorem flatB_iff {X Y : Nat → Int} {i j k : Nat} : flatB X Y i j k = true ↔ Y i = Y j ∧ X i ≠ X j ∧ X j = X k ∧ Y j ≠ Y k := by
  unfold flatB; simp [and_assoc]
/-- Do the sides from vertex i and from the next one have lengths and turn? -/
def turnB (X Y : Nat → Int) (n i : Nat) : Bool := onB (X i) (Y i) && (flatB X Y i ((i + 1) % n) ((i + 2) % n) || flatB Y X i ((i + 1) % n) ((i + 2) % n))
theorem turnB_iff {X Y : Nat → Int} {n i : Nat} : turnB X Y n i = true ↔ onB (X i) (Y i) = true ∧ ((Y i = Y ((i + 1) % n) ∧ X i ≠ X ((i + 1) % n) ∧ X ((i + 1) % n) = X ((i + 2) % n) ∧ Y ((i + 1) % n) ≠ Y ((i + 2) % n)) ∨ (X i = X ((i + 1) % n) ∧ Y i ≠ Y ((i + 1) % n) ∧ Y ((i + 1) % n) = Y ((i + 2) % n) ∧ X ((i + 1) % n) ≠ X ((i + 2) % n))) := by
  unfold turnB; rw [Bool.and_eq_true, Bool.or_eq_true, flatB_iff, flatB_iff]
def turnsB (X Y : Nat → Int) (n : Nat) : Bool := (List.range n).all (turnB X Y n)
theorem turnsB_f {X Y : Nat → Int} {n i : Nat} (h : i < n) (hf : turnB X Y n i = false) : turnsB X Y n = false := by
  unfold turnsB
  rw [List.all_eq_false]
  exact ⟨i, List.mem_range.2 h, by simp [hf]⟩
theorem turnsB_t {X Y : Nat → Int} {n : Nat} (h : ∀ i, i < n → turnB X Y n i = true) : turnsB X Y n = true := by
  unfold turnsB
  rw [List.all_eq_true]
  exact fun i hi => h i (List.mem_range.1 hi)
theorem turnsB_at {X Y : Nat → Int} {n i : Nat} (h : turnsB X Y n = true) (hi : i < n) : turnB X Y n i = true := by
  unfold turnsB at h
  exact List.all_eq_true.1 h i (List.mem_range.2 hi)
/-- Is the polygon valid? -/
def polyB (X Y : Nat → Int) (n : Nat) : Bool := (decide (4 ≤ n) && decide (n ≤ 12800) && decide (n % 2 = 0)) && turnsB X Y n
theorem polyB_t {X Y : Nat → Int} {n : Nat} (h : polyB X Y n = true) : 4 ≤ n ∧ n ≤ 12800 ∧ n % 2 = 0 ∧ turnsB X Y n = true := by
  unfold polyB at h; simpa [and_assoc] using h
theorem polyB_mk {X Y : Nat → Int} {n : Nat} (h1 : 4 ≤ n) (h2 : n ≤ 12800) (h3 : n % 2 = 0) : polyB X Y n = turnsB X Y n := by
  unfold polyB; simp [h1, h2, h3]
theorem polyB_f {X Y : Nat → Int} {n : Nat} (h : ¬ (4 ≤ n ∧ n ≤ 12800 ∧ n % 2 = 0)) : polyB X Y n = false := by
  cases hp : polyB X Y n with
  | false => rfl
  | true => exact absurd ⟨(polyB_t hp).1, (polyB_t hp).2.1, (polyB_t hp).2.2.1⟩ h

theorem elB_iff {a b c d : Int} : elB a b c d = true ↔ onB a b = true ∧ onB c d = true ∧ ((a = c ∧ b ≠ d) ∨ (a ≠ c ∧ b = d)) := by
  unfold elB
  rw [Bool.and_eq_true, Bool.and_eq_true, and_assoc]
  by_cases p : a = c <;> by_cases q : b = d <;> simp [p, q]
theorem elV_ne {a b c d : Int} (h : elB a b c d = true) : elV a b c d ≠ -1 := by
  rw [elV_t h]; omega
/-- The index before. -/
def pv (n i : Nat) : Nat := if i = 0 then n - 1 else i - 1
/-- Has side i a length, and does it turn off from the one before it? -/
def alt4 (P Q R S : Nat → Int) (n i : Nat) : Bool := elB (P i) (Q i) (R i) (S i) && (decide (P i = R i) != decide (P (pv n i) = R (pv n i)))
theorem alt4_iff {P Q R S : Nat → Int} {n i : Nat} : alt4 P Q R S n i = true ↔ elB (P i) (Q i) (R i) (S i) = true ∧ ¬ (P i = R i ↔ P (pv n i) = R (pv n i)) := by
  unfold alt4
  rw [Bool.and_eq_true]
  by_cases p : P i = R i <;> by_cases q : P (pv n i) = R (pv n i) <;> simp [p, q]
def altsB (P Q R S : Nat → Int) (n : Nat) : Bool := (List.range n).all (alt4 P Q R S n)
theorem altsB_f {P Q R S : Nat → Int} {n i : Nat} (h : i < n) (hf : alt4 P Q R S n i = false) : altsB P Q R S n = false := by
  unfold altsB
  rw [List.all_eq_false]
  exact ⟨i, List.mem_range.2 h, by simp [hf]⟩
theorem altsB_t {P Q R S : Nat → Int} {n : Nat} (h : ∀ i, i < n → alt4 P Q R S n i = true) : altsB P Q R S n = true := by
  unfold altsB
  rw [List.all_eq_true]
  exact fun i hi => h i (List.mem_range.1 hi)
theorem altsB_at {P Q R S : Nat → Int} {n i : Nat} (h : altsB P Q R S n = true) (hi : i < n) : alt4 P Q R S n i = true := by
  unfold altsB at h
  exact List.all_eq_true.1 h i (List.mem_range.2 hi)
theorem mod_nx {n i : Nat} (h : i < n) : (i + 1) % n = if i + 1 = n then 0 else i + 1 := by
  split
  · rename_i e; rw [e, Nat.mod_self]
  · exact Nat.mod_eq_of_lt (by omega)
theorem pv_lt {n i : Nat} (h : i < n) : pv n i < n := by unfold pv; split <;> omega
theorem nx_pv {n i : Nat} (h : i < n) : (pv n i + 1) % n = i := by
  rw [mod_nx (pv_lt h)]; unfold pv; split <;> split <;> omega
theorem pv_nx {n i : Nat} (h : i < n) : pv n ((i + 1) % n) = i := by
  rw [mod_nx h]; unfold pv; split <;> split <;> omega
theorem nx_nx {n i : Nat} : ((i + 1) % n + 1) % n = (i + 2) % n := by rw [Nat.mod_add_mod]
theorem nx2_pv {n i : Nat} (h : i < n) : (pv n i + 2) % n = (i + 1) % n := by rw [← nx_nx, nx_pv h]
/-- The sides of a polygon turn exactly if its vertices do. -/
theorem alts_turns (X Y : Nat → Int) (n : Nat) : altsB X Y (fun i => X ((i + 1) % n)) (fun i => Y ((i + 1) % n)) n = turnsB X Y n := by
  rw [Bool.eq_iff_iff]
  constructor
  · intro h
    refine turnsB_t fun i hi => ?_
    have hj : (i + 1) % n < n := Nat.mod_lt _ (by omega)
    have a := altsB_at h hi
    have b := altsB_at h hj
    rw [alt4_iff, elB_iff] at a b
    rw [pv_nx hi, nx_nx] at b
    rw [turnB_iff]
    refine ⟨a.1.1, ?_⟩
    obtain ⟨⟨_, _, a1⟩, _⟩ := a
    obtain ⟨⟨_, _, b1⟩, b2⟩ := b
    by_cases q : X i = X ((i + 1) % n)
    · by_cases q' : X ((i + 1) % n) = X ((i + 2) % n)
      · exact absurd ⟨fun _ => q, fun _ => q'⟩ b2
      · exact .inr ⟨q, by omega, by omega, q'⟩
    · by_cases q' : X ((i + 1) % n) = X ((i + 2) % n)
      · exact .inl ⟨by omega, q, q', by omega⟩
      · exact absurd ⟨fun k => absurd k q', fun k => absurd k q⟩ b2
  · intro h
    refine altsB_t fun i hi => ?_
    have hj : (i + 1) % n < n := Nat.mod_lt _ (by omega)
    have a := turnsB_at h hi
    have b := turnsB_at h hj
    have c := turnsB_at h (pv_lt hi)
    rw [turnB_iff] at a b c
    rw [nx_pv hi, nx2_pv hi] at c
    rw [alt4_iff, elB_iff]
    show _ ∧ ¬ (_ ↔ X (pv n i) = X ((pv n i + 1) % n))
    rw [nx_pv hi]
    refine ⟨⟨a.1, b.1, ?_⟩, ?_⟩
    · obtain ⟨_, a1⟩ := a
      omega
    · obtain ⟨_, a1⟩ := a
      obtain ⟨_, c1⟩ := c
      show ¬ (X i = X ((i + 1) % n) ↔ X (pv n i) = X i)
      intro k
      rcases c1 with c1 | c1
      · exact c1.2.1 (k.1 c1.2.2.1)
      · exact c1.2.2.2 (k.2 c1.1)
theorem turn_side {X Y : Nat → Int} {n i : Nat} (h : turnB X Y n i = true) : (X i = X ((i + 1) % n) ∧ Y i ≠ Y ((i + 1) % n)) ∨ (X i ≠ X ((i + 1) % n) ∧ Y i = Y ((i + 1) % n)) := by
  rw [turnB_iff] at h
  obtain ⟨_, h⟩ := h
  omega
theorem turn_on {X Y : Nat → Int} {n i : Nat} (h : turnB X Y n i = true) : (-40 ≤ X i ∧ X i ≤ 40) ∧ (-40 ≤ Y i ∧ Y i ≤ 40) := onB_t (turnB_iff.1 h).1

/-- The signed area of the first k sides. -/
def arS (P Q S : Nat → Int) : Nat → Int
  | 0 => 0
  | k + 1 => arS P Q S k + P k * (S k - Q k)
theorem mul_bound {a b A B : Int} (h1 : -A ≤ a) (h2 : a ≤ A) (h3 : -B ≤ b) (h4 : b ≤ B) : -(A * B) ≤ a * b ∧ a * b ≤ A * B := by
  have hA : 0 ≤ A := by omega
  have hB : 0 ≤ B := by omega
  have e1 : 0 ≤ (A - a) * (B - b) := Int.mul_nonneg (by omega) (by omega)
  have e2 : 0 ≤ (A + a) * (B + b) := Int.mul_nonneg (by omega) (by omega)
  have e3 : 0 ≤ (A - a) * (B + b) := Int.mul_nonneg (by omega) (by omega)
  have e4 : 0 ≤ (A + a) * (B - b) := Int.mul_nonneg (by omega) (by omega)
  rw [Int.sub_mul, Int.mul_sub, Int.mul_sub] at e1
  rw [Int.add_mul, Int.mul_add, Int.mul_add] at e2
  rw [Int.sub_mul, Int.mul_add, Int.mul_add] at e3
  rw [Int.add_mul, Int.mul_sub, Int.mul_sub] at e4
  omega
theorem arS_le (P Q S : Nat → Int) : ∀ k, (∀ i, i < k → (-40 ≤ P i ∧ P i ≤ 40) ∧ (-40 ≤ Q i ∧ Q i ≤ 40) ∧ (-40 ≤ S i ∧ S i ≤ 40)) → -(3200 * (k : Int)) ≤ arS P Q S k ∧ arS P Q S k ≤ 3200 * (k : Int)
  | 0, _ => by simp [arS]
  | k + 1, h => by
    have ih := arS_le P Q S k fun i hi => h i (by omega)
    have hk := h k (by omega)
    have := mul_bound (A := 40) (B := 80) (a := P k) (b := S k - Q k) (by omega) (by omega) (by omega) (by omega)
    rw [arS]
    omega
/-- What SignedArea answers. -/
def saV (X Y : Nat → Int) (n : Nat) : Int := if polyB X Y n = true then arS X Y (fun i => Y ((i + 1) % n)) n else 0

/-- Are the vertices of q those of p from vertex k on? -/
def rotB (X Y U V : Nat → Int) (n k : Nat) : Bool := (List.range n).all fun i => X ((i + k) % n) == U i && Y ((i + k) % n) == V i
theorem rotB_t {X Y U V : Nat → Int} {n k : Nat} (h : ∀ i, i < n → X ((i + k) % n) = U i ∧ Y ((i + k) % n) = V i) : rotB X Y U V n k = true := by
  unfold rotB
  rw [List.all_eq_true]
  exact fun i hi => by simp [h i (List.mem_range.1 hi)]
theorem rotB_f {X Y U V : Nat → Int} {n k i : Nat} (hi : i < n) (h : ¬ (X ((i + k) % n) = U i ∧ Y ((i + k) % n) = V i)) : rotB X Y U V n k = false := by
  unfold rotB
  rw [List.all_eq_false]
  refine ⟨i, List.mem_range.2 hi, ?_⟩
  simpa using h
theorem rotB_iff {X Y U V : Nat → Int} {n k : Nat} : rotB X Y U V n k = true ↔ ∀ i, i < n → X ((i + k) % n) = U i ∧ Y ((i + k) % n) = V i := by
  constructor
  · intro h i hi
    unfold rotB at h
    have := List.all_eq_true.1 h i (List.mem_range.2 hi)
    simpa using this
  · exact rotB_t
/-- What SamePolygon answers. -/
def sameB (X Y U V : Nat → Int) (n m : Nat) : Bool := (polyB X Y n && polyB U V m && decide (n = m)) && (List.range n).any (rotB X Y U V n)
end Go.Proofs.YtfbalpkjcfdakaaGreatDoor

namespace Go.Proofs.YtfbalpkjcfdakaaGreatDoor
open Go.RowKit
set_option linter.unusedVariables false
set_option linter.unusedSimpArgs false

def fillF (L : List R4) (k : Nat) : Bool := lft L (((k % 80 : Nat) : Int) - 40) (((k / 80 : Nat) : Int) - 40)
def fillR (L : List R4) (k : Nat) : Bool := rgt L (((k % 80 : Nat) : Int) - 40) (((k / 80 : Nat) : Int) - 40)
theorem fillF_has (L : List R4) {x y : Int} (h : (-40 ≤ x ∧ x ≤ 39) ∧ (-40 ≤ y ∧ y ≤ 39)) : hasB (fillF L) x y = lft L x y := by
  rw [hasB_in h]
  unfold fillF
  rw [(cIx_back h.1.1 h.1.2 h.2.1 h.2.2).1, (cIx_back h.1.1 h.1.2 h.2.1 h.2.2).2]
theorem fillR_has (L : List R4) {x y : Int} (h : (-40 ≤ x ∧ x ≤ 39) ∧ (-40 ≤ y ∧ y ≤ 39)) : hasB (fillR L) x y = rgt L x y := by
  rw [hasB_in h]
  unfold fillR
  rw [(cIx_back h.1.1 h.1.2 h.2.1 h.2.2).1, (cIx_back h.1.1 h.1.2 h.2.1 h.2.2).2]
theorem par_snoc (q : R4 → Bool) (L : List R4) (e : R4) : decide (((L ++ [e]).filter q).length % 2 = 1) = (decide ((L.filter q).length % 2 = 1) != q e) := by
  rw [List.filter_append, List.length_append]
  cases hq : q e with
  | true =>
    have : ([e].filter q).length = 1 := by simp [hq]
    rw [this, Bool.eq_iff_iff]
    simp
    omega
  | false =>
    have : ([e].filter q).length = 0 := by simp [hq]
    rw [this, Bool.eq_iff_iff]
    simp
theorem lft_snoc (L : List R4) (e : R4) (x y : Int) : lft (L ++ [e]) x y = (lft L x y != (crs y e && decide (e.a ≤ x))) := par_snoc _ L e
theorem rgt_snoc (L : List R4) (e : R4) (x y : Int) : rgt (L ++ [e]) x y = (rgt L x y != (crs y e && decide (x < e.a))) := par_snoc _ L e
theorem listR_succ (P Q R S : Nat → Int) (n : Nat) : listR P Q R S (n + 1) = listR P Q R S n ++ [⟨P n, Q n, R n, S n⟩] := by simp [listR, List.range_succ]
theorem crs_flat {y : Int} {e : R4} (h : e.b = e.d) : crs y e = false := by
  cases hc : crs y e with
  | false => rfl
  | true => rw [crs_t] at hc; omega
theorem crs_par {y : Int} {e : R4} (h : e.a = e.c ∨ e.b = e.d) : crs y e = (decide (e.b ≤ y) != decide (e.d ≤ y)) := by
  by_cases k : e.b = e.d
  · rw [crs_flat k, k]; simp
  · rw [Bool.eq_iff_iff, crs_t]
    have ha : e.a = e.c := by omega
    by_cases p : e.b ≤ y <;> by_cases q : e.d ≤ y <;> simp [p, q, ha] <;> omega
theorem crs_walk (X Y : Nat → Int) (n : Nat) (h : ∀ i, i < n → X i = X ((i + 1) % n) ∨ Y i = Y ((i + 1) % n)) (y : Int) : ∀ k, k ≤ n → decide (((listR X Y (fun i => X ((i + 1) % n)) (fun i => Y ((i + 1) % n)) k).filter (crs y)).length % 2 = 1) = (decide (Y 0 ≤ y) != decide (Y (k % n) ≤ y))
  | 0, _ => by rw [Nat.zero_mod]; simp [listR]
  | k + 1, hk => by
    rw [listR_succ, par_snoc, crs_walk X Y n h y k (by omega), crs_par (h k (by omega)), Nat.mod_eq_of_lt (show k < n by omega)]
    show ((decide (Y 0 ≤ y) != decide (Y k ≤ y)) != (decide (Y k ≤ y) != decide (Y ((k + 1) % n) ≤ y))) = _
    cases decide (Y 0 ≤ y) <;> cases decide (Y k ≤ y) <;> cases decide (Y ((k + 1) % n) ≤ y) <;> rfl
theorem poly_even {X Y : Nat → Int} {n : Nat} (h : ∀ i, i < n → X i = X ((i + 1) % n) ∨ Y i = Y ((i + 1) % n)) (y : Int) : ((listR X Y (fun i => X ((i + 1) % n)) (fun i => Y ((i + 1) % n)) n).filter (crs y)).length % 2 = 0 := by
  have := crs_walk X Y n h y n (Nat.le_refl _)
  rw [Nat.mod_self] at this
  simp at this
  omega
/-- Between the sides of a polygon: from the left as from the right. -/
theorem poly_lr {X Y : Nat → Int} {n : Nat} (h : ∀ i, i < n → X i = X ((i + 1) % n) ∨ Y i = Y ((i + 1) % n)) (x y : Int) : lft (listR X Y (fun i => X ((i + 1) % n)) (fun i => Y ((i + 1) % n)) n) x y = rgt (listR X Y (fun i => X ((i + 1) % n)) (fun i => Y ((i + 1) % n)) n) x y := by
  have he := poly_even h y
  obtain ⟨L, hL⟩ : ∃ L, L = listR X Y (fun i => X ((i + 1) % n)) (fun i => Y ((i + 1) % n)) n := ⟨_, rfl⟩
  rw [← hL] at he ⊢
  have hs := filter_split (fun e : R4 => decide (e.a ≤ x)) (fun e : R4 => decide (x < e.a)) (L.filter (crs y)) fun e _ => by
    rw [Bool.eq_iff_iff]; simp
  rw [List.filter_filter, List.filter_filter] at hs
  have c1 : (L.filter fun e => decide (e.a ≤ x) && crs y e) = L.filter fun e => crs y e && decide (e.a ≤ x) := by congr 1; funext e; exact Bool.and_comm ..
  have c2 : (L.filter fun e => decide (x < e.a) && crs y e) = L.filter fun e => crs y e && decide (x < e.a) := by congr 1; funext e; exact Bool.and_comm ..
  rw [c1, c2] at hs
  unfold lft rgt
  rw [Bool.eq_iff_iff]
  simp only [decide_eq_true_eq]
  omega
theorem poly_fill {X Y : Nat → Int} {n : Nat} (h : polyB X Y n = true) (k : Nat) : fillF (listR X Y (fun i => X ((i + 1) % n)) (fun i => Y ((i + 1) % n)) n) k = fillR (listR X Y (fun i => X ((i + 1) % n)) (fun i => Y ((i + 1) % n)) n) k :=
  poly_lr (fun i hi => by have := turn_side (turnsB_at (polyB_t h).2.2.2 hi); omega) _ _
/-- The edges of a set fill it, from both sides. -/
theorem edges_fill {f : Nat → Bool} {L : List R4} (h : EdgesOf f L) (k : Nat) (hk : k < 6400) : fillF L k = f k := by
  have hx : -40 ≤ (((k % 80 : Nat) : Int) - 40) ∧ (((k % 80 : Nat) : Int) - 40) ≤ 39 := by omega
  have hy : -40 ≤ (((k / 80 : Nat) : Int) - 40) ∧ (((k / 80 : Nat) : Int) - 40) ≤ 39 := by omega
  unfold fillF
  rw [lft_has h hx.1 hx.2, hasB_in ⟨hx, hy⟩]
  congr 1
  unfold cIx
  omega
theorem edges_fillR {f : Nat → Bool} {L : List R4} (h : EdgesOf f L) (k : Nat) (hk : k < 6400) : fillR L k = f k := by
  have hx : -40 ≤ (((k % 80 : Nat) : Int) - 40) ∧ (((k % 80 : Nat) : Int) - 40) ≤ 39 := by omega
  have hy : -40 ≤ (((k / 80 : Nat) : Int) - 40) ∧ (((k / 80 : Nat) : Int) - 40) ≤ 39 := by omega
  unfold fillR
  rw [rgt_has h hx.1 hx.2, hasB_in ⟨hx, hy⟩]
  congr 1
  unfold cIx
  omega
end Go.Proofs.YtfbalpkjcfdakaaGreatDoor

namespace Go.Proofs.YtfbalpkjcfdakaaGreatDoor
open Go.RowKit
set_option linter.unusedVariables false
set_option linter.unusedSimpArgs false

/-- The set f, turned over where q says so. -/
def tgF (f : Nat → Bool) (q : Int → Int → Bool) (k : Nat) : Bool := f k != q (((k % 80 : Nat) : Int) - 40) (((k / 80 : Nat) : Int) - 40)
def fmQ (a lo y u v : Int) : Bool := (decide (lo ≤ v) && decide (v < y)) && decide (a ≤ u)
def fiQ (a lo y x u v : Int) : Bool := fmQ a lo y u v || ((decide (v = y) && decide (a ≤ u)) && decide (u < x))
theorem tg_congr {f : Nat → Bool} {p q : Int → Int → Bool} {k : Nat} (h : ∀ u v : Int, u ≤ 39 → p u v = q u v) : tgF f p k = tgF f q k := by
  unfold tgF; rw [h _ _ (by omega)]
theorem tg_no {f : Nat → Bool} {q : Int → Int → Bool} {k : Nat} (h : ∀ u v : Int, q u v = false) : tgF f q k = f k := by
  unfold tgF; rw [h]; simp
theorem fm_start (f : Nat → Bool) (a lo y : Int) (hy : y ≤ lo) (k : Nat) : f k = tgF f (fmQ a lo y) k := by
  rw [tg_no]
  intro u v
  unfold fmQ
  rw [Bool.and_eq_false_iff, Bool.and_eq_false_iff, decide_eq_false_iff_not, decide_eq_false_iff_not]; omega
theorem fi_start (f : Nat → Bool) (a lo y : Int) (k : Nat) : tgF f (fmQ a lo y) k = tgF f (fiQ a lo y a) k := by
  refine tg_congr fun u v _ => ?_
  unfold fiQ
  have : ((decide (v = y) && decide (a ≤ u)) && decide (u < a)) = false := by
    rw [Bool.and_eq_false_iff, Bool.and_eq_false_iff, decide_eq_false_iff_not, decide_eq_false_iff_not, decide_eq_false_iff_not]; omega
  rw [this, Bool.or_false]
theorem fi_end (f : Nat → Bool) (a lo y : Int) (h : lo ≤ y) (k : Nat) : tgF f (fiQ a lo y 40) k = tgF f (fmQ a lo (y + 1)) k := by
  refine tg_congr fun u v hu => ?_
  unfold fiQ fmQ
  rw [Bool.eq_iff_iff]
  simp only [Bool.or_eq_true, Bool.and_eq_true, decide_eq_true_eq]
  omega
theorem fi_step (f : Nat → Bool) (a lo y x : Int) (h1 : -40 ≤ x) (h2 : x ≤ 39) (h3 : -40 ≤ y) (h4 : y ≤ 39) (ha : a ≤ x) (k : Nat) : (tgF f (fiQ a lo y x) k != decide (k = cIx x y)) = tgF f (fiQ a lo y (x + 1)) k := by
  have e : decide (k = cIx x y) = (decide ((((k / 80 : Nat) : Int) - 40) = y) && decide ((((k % 80 : Nat) : Int) - 40) = x)) := by
    rw [Bool.eq_iff_iff, Bool.and_eq_true, decide_eq_true_eq, decide_eq_true_eq, decide_eq_true_eq]
    unfold cIx
    omega
  unfold tgF
  rw [e]
  generalize (((k / 80 : Nat) : Int) - 40) = v
  generalize (((k % 80 : Nat) : Int) - 40) = u
  have e2 : fiQ a lo y (x + 1) u v = (fiQ a lo y x u v != (decide (v = y) && decide (u = x))) := by
    unfold fiQ fmQ
    by_cases p : v = y
    · subst p
      by_cases q : u = x
      · subst q; simp [ha]; omega
      · have : decide (u < x + 1) = decide (u < x) := decide_eq_decide.2 (by omega)
        rw [this]; simp [q]
    · simp [p]
  rw [e2]
  cases f k <;> cases fiQ a lo y x u v <;> cases (decide (v = y) && decide (u = x)) <;> rfl
/-- An upright edge done. -/
theorem fm_end {P Q R S : Nat → Int} {i : Nat} (hp : P i = R i) (k : Nat) : tgF (fillF (listR P Q R S i)) (fmQ (P i) (min (Q i) (S i)) (max (Q i) (S i))) k = fillF (listR P Q R S (i + 1)) k := by
  unfold tgF
  rw [listR_succ]
  unfold fillF
  rw [lft_snoc]
  unfold fmQ crs
  simp [hp]
/-- Another edge done. -/
theorem fl_end {P Q R S : Nat → Int} {i : Nat} (hp : P i ≠ R i) (k : Nat) : fillF (listR P Q R S i) k = fillF (listR P Q R S (i + 1)) k := by
  rw [listR_succ]
  unfold fillF
  rw [lft_snoc]
  unfold crs
  simp [hp]
theorem fillF_none (P Q R S : Nat → Int) (k : Nat) : fillF (listR P Q R S 0) k = false := by
  unfold fillF lft
  simp [listR]
theorem BitsIs.tog {w : World} {g k : Nat} {f : Nat → Bool} (h : BitsIs w g f) (hk : k < 6400) : BitsIs (w.setCell ⟨g, k, none⟩ (.bool (!f k))) g (fun i => f i != decide (i = k)) := fun i hi => by
  obtain ⟨c, fz⟩ := h i hi
  refine ⟨?_, by simpa [go_sem] using fz⟩
  by_cases e : i = k
  · subst e
    rw [World.cell?_setCell_same _ _ _ c]
    simp
  · rw [World.cell?_setCell_other _ _ _ _ (by simp <;> omega), c]
    simp [e]
end Go.Proofs.YtfbalpkjcfdakaaGreatDoor
