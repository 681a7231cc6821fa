/- The directed sides of a set's boundary, its edges; sorted lists. No program's run in it. -/
import Derived.Test.YtfbalpkjcfdakaaDoorQE
namespace Go.Proofs.YtfbalpkjcfdakaaDoor
open Go.RowKit
set_option linter.unusedVariables false
set_option linter.unusedSimpArgs false

/-- Is the side number t of the line c, in the direction o, part of the boundary? -/
def gS (f : Nat → Bool) (o : Nat) (c t : Int) : Bool :=
  match o with
  | 0 => hasB f t c && !hasB f t (c - 1)
  | 1 => hasB f t (c - 1) && !hasB f t c
  | 2 => hasB f (c - 1) t && !hasB f c t
  | _ => hasB f c t && !hasB f (c - 1) t
/-- The edge of the sides lo to hi - 1. -/
def mkE (o : Nat) (c lo hi : Int) : R4 :=
  match o with
  | 0 => ⟨lo, c, hi, c⟩
  | 1 => ⟨hi, c, lo, c⟩
  | 2 => ⟨c, lo, c, hi⟩
  | _ => ⟨c, hi, c, lo⟩
def MaxI (g : Int → Bool) (lo hi : Int) : Prop := lo < hi ∧ (∀ t, lo ≤ t → t < hi → g t = true) ∧ g (lo - 1) = false ∧ g hi = false
def IsEdge (f : Nat → Bool) (e : R4) : Prop := ∃ (o : Nat) (c lo hi : Int), o < 4 ∧ MaxI (gS f o c) lo hi ∧ e = mkE o c lo hi

theorem o4 {o : Nat} (h : o < 4) : o = 0 ∨ o = 1 ∨ o = 2 ∨ o = 3 := by omega
theorem mkE_inj {o o' : Nat} {c lo hi c' lo' hi' : Int} (h : o < 4) (h' : o' < 4) (l : lo < hi) (l' : lo' < hi') (e : mkE o c lo hi = mkE o' c' lo' hi') : o = o' ∧ c = c' ∧ lo = lo' ∧ hi = hi' := by
  rcases o4 h with rfl | rfl | rfl | rfl <;> rcases o4 h' with rfl | rfl | rfl | rfl <;> simp only [mkE, R4.mk.injEq] at e <;> omega
theorem MaxI.eq {g : Int → Bool} {lo hi lo' hi' t : Int} (h : MaxI g lo hi) (h' : MaxI g lo' hi') (t1 : lo ≤ t) (t2 : t < hi) (t3 : lo' ≤ t) (t4 : t < hi') : lo = lo' ∧ hi = hi' := by
  obtain ⟨a1, a2, a3, a4⟩ := h
  obtain ⟨b1, b2, b3, b4⟩ := h'
  constructor
  · rcases Int.lt_trichotomy lo lo' with h | h | h
    · rw [a2 (lo' - 1) (by omega) (by omega)] at b3; cases b3
    · exact h
    · rw [b2 (lo - 1) (by omega) (by omega)] at a3; cases a3
  · rcases Int.lt_trichotomy hi hi' with h | h | h
    · rw [b2 hi (by omega) (by omega)] at a4; cases a4
    · exact h
    · rw [a2 hi' (by omega) (by omega)] at b4; cases b4
theorem down_ex {g : Int → Bool} (hb : ∀ t, g t = true → -41 < t ∧ t < 41) : ∀ (n : Nat) (t : Int), g t = true → t + 41 ≤ n → ∃ lo, lo ≤ t ∧ (∀ s, lo ≤ s → s ≤ t → g s = true) ∧ g (lo - 1) = false
  | 0, t, h, hn => by have := hb t h; omega
  | n + 1, t, h, hn => by
    cases hc : g (t - 1) with
    | false => exact ⟨t, Int.le_refl _, fun s h1 h2 => by obtain rfl : s = t := by omega
                                                          exact h, hc⟩
    | true =>
      obtain ⟨lo, h1, h2, h3⟩ := down_ex hb n (t - 1) hc (by omega)
      exact ⟨lo, by omega, fun s k1 k2 => by
        by_cases e : s = t
        · rw [e]; exact h
        · exact h2 s k1 (by omega), h3⟩
theorem up_ex {g : Int → Bool} (hb : ∀ t, g t = true → -41 < t ∧ t < 41) : ∀ (n : Nat) (t : Int), g t = true → 41 - t ≤ n → ∃ hi, t < hi ∧ (∀ s, t ≤ s → s < hi → g s = true) ∧ g hi = false
  | 0, t, h, hn => by have := hb t h; omega
  | n + 1, t, h, hn => by
    cases hc : g (t + 1) with
    | false => exact ⟨t + 1, by omega, fun s h1 h2 => by obtain rfl : s = t := by omega
                                                         exact h, hc⟩
    | true =>
      obtain ⟨hi, h1, h2, h3⟩ := up_ex hb n (t + 1) hc (by omega)
      exact ⟨hi, by omega, fun s k1 k2 => by
        by_cases e : s = t
        · rw [e]; exact h
        · exact h2 s (by omega) k2, h3⟩
theorem MaxI.ex {g : Int → Bool} {t : Int} (hb : ∀ t, g t = true → -41 < t ∧ t < 41) (h : g t = true) : ∃ lo hi, MaxI g lo hi ∧ lo ≤ t ∧ t < hi := by
  have := hb t h
  obtain ⟨lo, h1, h2, h3⟩ := down_ex hb (t + 41).toNat t h (by omega)
  obtain ⟨hi, k1, k2, k3⟩ := up_ex hb (41 - t).toNat t h (by omega)
  exact ⟨lo, hi, ⟨by omega, fun s s1 s2 => by
    by_cases e : s ≤ t
    · exact h2 s s1 e
    · exact k2 s (by omega) s2, h3, k3⟩, h1, k1⟩
theorem hasB_t {f : Nat → Bool} {x y : Int} (h : hasB f x y = true) : (-40 ≤ x ∧ x ≤ 39) ∧ (-40 ≤ y ∧ y ≤ 39) := by
  unfold hasB at h
  rw [Bool.and_eq_true] at h
  exact inC_t h.1
theorem gS_c {f : Nat → Bool} {c t : Int} : (gS f 0 c t = true → hasB f t c = true) ∧ (gS f 1 c t = true → hasB f t (c - 1) = true) ∧ (gS f 2 c t = true → hasB f (c - 1) t = true) ∧ (gS f 3 c t = true → hasB f c t = true) := by
  refine ⟨fun h => ?_, fun h => ?_, fun h => ?_, fun h => ?_⟩ <;> (simp only [gS, Bool.and_eq_true] at h; exact h.1)
theorem gS_t {f : Nat → Bool} {o : Nat} {c t : Int} (h : gS f o c t = true) : (-40 ≤ t ∧ t ≤ 39) ∧ (-40 ≤ c ∧ c ≤ 40) := by
  unfold gS at h
  split at h <;> rw [Bool.and_eq_true] at h <;> have := hasB_t h.1 <;> omega
theorem gS_b (f : Nat → Bool) (o : Nat) (c : Int) : ∀ t, gS f o c t = true → -41 < t ∧ t < 41 := fun t h => by have := gS_t h; omega
theorem MaxI.b {f : Nat → Bool} {o : Nat} {c lo hi : Int} (h : MaxI (gS f o c) lo hi) : (-40 ≤ lo ∧ hi ≤ 40) ∧ (-40 ≤ c ∧ c ≤ 40) := by
  have h1 := gS_t (h.2.1 lo (Int.le_refl _) h.1)
  have h2 := gS_t (h.2.1 (hi - 1) (by have := h.1; omega) (by omega))
  omega
/-- Two edges of one set that share a side are one. -/
theorem edge_eq {f : Nat → Bool} {o o' : Nat} {c lo hi c' lo' hi' t : Int} (h : MaxI (gS f o c) lo hi) (h' : MaxI (gS f o' c') lo' hi') (e1 : o = o') (e2 : c = c') (t1 : lo ≤ t) (t2 : t < hi) (t3 : lo' ≤ t) (t4 : t < hi') : mkE o c lo hi = mkE o' c' lo' hi' := by
  subst e1 e2
  obtain ⟨rfl, rfl⟩ := h.eq h' t1 t2 t3 t4
  rfl

/-- The order of edges. -/
def ltE (e g : R4) : Prop := e.b < g.b ∨ e.b = g.b ∧ (e.a < g.a ∨ e.a = g.a ∧ (e.d < g.d ∨ e.d = g.d ∧ e.c < g.c))
instance (e g : R4) : Decidable (ltE e g) := by unfold ltE; infer_instance
theorem ltE_irr (e : R4) : ¬ ltE e e := by unfold ltE; omega
theorem ltE_trans {e g h : R4} (h1 : ltE e g) (h2 : ltE g h) : ltE e h := by unfold ltE at *; omega
theorem R4_ext {e g : R4} (h1 : e.a = g.a) (h2 : e.b = g.b) (h3 : e.c = g.c) (h4 : e.d = g.d) : e = g := by
  cases e; cases g; simp only at h1 h2 h3 h4; subst h1 h2 h3 h4; rfl
theorem ltE_tot {e g : R4} (h1 : ¬ ltE e g) (h2 : e ≠ g) : ltE g e := by
  have h3 : ¬ (e.a = g.a ∧ e.b = g.b ∧ e.c = g.c ∧ e.d = g.d) := fun ⟨k1, k2, k3, k4⟩ => h2 (R4_ext k1 k2 k3 k4)
  unfold ltE at *
  omega

/-- Sorted lists with the same members are equal. -/
theorem sorted_ext {α : Type} {lt : α → α → Prop} (irr : ∀ a, ¬ lt a a) (tr : ∀ {a b c}, lt a b → lt b c → lt a c) : ∀ {L L' : List α}, L.Pairwise lt → L'.Pairwise lt → (∀ e, e ∈ L ↔ e ∈ L') → L = L'
  | [], [], _, _, _ => rfl
  | [], b :: l', _, _, h => absurd ((h b).2 (by simp)) (by simp)
  | a :: l, [], _, _, h => absurd ((h a).1 (by simp)) (by simp)
  | a :: l, b :: l', h1, h2, h => by
    rw [List.pairwise_cons] at h1 h2
    have e : a = b := by
      rcases List.mem_cons.1 ((h a).1 (by simp)) with e | e
      · exact e
      · rcases List.mem_cons.1 ((h b).2 (by simp)) with e' | e'
        · exact e'.symm
        · exact absurd (tr (h1.1 b e') (h2.1 a e)) (irr a)
    subst e
    rw [sorted_ext irr tr h1.2 h2.2 fun e => ⟨fun he => by
      rcases List.mem_cons.1 ((h e).1 (by simp [he])) with e' | e'
      · exact absurd (e' ▸ h1.1 e he) (irr _)
      · exact e', fun he => by
      rcases List.mem_cons.1 ((h e).2 (by simp [he])) with e' | e'
      · exact absurd (e' ▸ h2.1 e he) (irr _)
      · exact e'⟩]
/-- An element put into a sorted list behind those that are less. -/
theorem put_sorted {α : Type} {lt : α → α → Prop} (tr : ∀ {a b c}, lt a b → lt b c → lt a c) (tot : ∀ {a b}, ¬ lt a b → a ≠ b → lt b a) {L : List α} (h : L.Pairwise lt) (e : α) (i : Nat) (hi : i ≤ L.length) (h1 : ∀ j a, j < i → L[j]? = some a → lt a e) (h2 : ∀ a, L[i]? = some a → ¬ lt a e ∧ a ≠ e) :
    (L.take i ++ e :: L.drop i).Pairwise lt ∧ ∀ a, a ∈ L.take i ++ e :: L.drop i ↔ a = e ∨ a ∈ L := by
  have hs := h
  rw [← List.take_append_drop i L, List.pairwise_append] at hs
  obtain ⟨p1, p2, p3⟩ := hs
  have t1 : ∀ a, a ∈ L.take i → lt a e := fun a ha => by
    obtain ⟨j, hj⟩ := List.getElem?_of_mem ha
    have hji : j < i := by
      have := (List.getElem?_eq_some_iff.1 hj).1
      rw [List.length_take] at this
      omega
    rw [List.getElem?_take_of_lt hji] at hj
    exact h1 j a hji hj
  have t2 : ∀ a, a ∈ L.drop i → lt e a := fun a ha => by
    cases hd : L.drop i with
    | nil => rw [hd] at ha; simp at ha
    | cons b l =>
      have hb : L[i]? = some b := by
        have : (L.drop i)[0]? = some b := by rw [hd]; rfl
        rwa [List.getElem?_drop, Nat.add_zero] at this
      have := h2 b hb
      have lb := tot this.1 this.2
      rw [hd] at ha p2
      rcases List.mem_cons.1 ha with rfl | ha
      · exact lb
      · exact tr lb ((List.pairwise_cons.1 p2).1 a ha)
  constructor
  · rw [List.pairwise_append, List.pairwise_cons]
    refine ⟨p1, ⟨t2, p2⟩, fun a ha b hb => ?_⟩
    rcases List.mem_cons.1 hb with rfl | hb
    · exact t1 a ha
    · exact p3 a ha b hb
  · intro a
    rw [List.mem_append, List.mem_cons]
    have : a ∈ L ↔ a ∈ L.take i ∨ a ∈ L.drop i := by rw [← List.mem_append, List.take_append_drop]
    rw [this]
    constructor
    · rintro (h | h | h)
      · exact .inr (.inl h)
      · exact .inl h
      · exact .inr (.inr h)
    · rintro (h | h | h)
      · exact .inr (.inl h)
      · exact .inl h
      · exact .inr (.inr h)

/-- The sorted edges of a set. -/
def EdgesOf (f : Nat → Bool) (L : List R4) : Prop := L.Pairwise ltE ∧ ∀ e, e ∈ L ↔ IsEdge f e
theorem EdgesOf.uniq {f : Nat → Bool} {L L' : List R4} (h : EdgesOf f L) (h' : EdgesOf f L') : L = L' := sorted_ext ltE_irr ltE_trans h.1 h'.1 fun e => (h.2 e).trans (h'.2 e).symm
theorem EdgesOf.nodup {f : Nat → Bool} {L : List R4} (h : EdgesOf f L) : L.Nodup := h.1.imp fun {a b} h e => by subst e; exact ltE_irr _ h

/-- The sides around a unit cell. -/
def sidesAt (f : Nat → Bool) (x y : Int) : List R4 :=
  (((if gS f 0 y x = true then [mkE 0 y x (x + 1)] else []) ++ (if gS f 2 (x + 1) y = true then [mkE 2 (x + 1) y (y + 1)] else [])) ++ (if gS f 1 (y + 1) x = true then [mkE 1 (y + 1) x (x + 1)] else [])) ++ (if gS f 3 x y = true then [mkE 3 x y (y + 1)] else [])
def sidesR (f : Nat → Bool) (y : Int) (k : Nat) : List R4 := (List.range k).flatMap fun j : Nat => sidesAt f (-40 + (j : Int)) y
def sidesU (f : Nat → Bool) (k : Nat) : List R4 := (List.range k).flatMap fun j : Nat => sidesR f (-40 + (j : Int)) 80
theorem sidesR_succ (f : Nat → Bool) (y : Int) (k : Nat) : sidesR f y (k + 1) = sidesR f y k ++ sidesAt f (-40 + (k : Int)) y := by simp [sidesR, List.range_succ]
theorem sidesU_succ (f : Nat → Bool) (k : Nat) : sidesU f (k + 1) = sidesU f k ++ sidesR f (-40 + (k : Int)) 80 := by simp [sidesU, List.range_succ]
theorem sidesAt_len (f : Nat → Bool) (x y : Int) : (sidesAt f x y).length ≤ 4 := by
  unfold sidesAt
  simp only [List.length_append]
  have h : ∀ (b : Prop) [Decidable b] (e : R4), (if b then [e] else []).length ≤ 1 := fun b _ e => by split <;> simp
  have h1 := h (gS f 0 y x = true) (mkE 0 y x (x + 1))
  have h2 := h (gS f 2 (x + 1) y = true) (mkE 2 (x + 1) y (y + 1))
  have h3 := h (gS f 1 (y + 1) x = true) (mkE 1 (y + 1) x (x + 1))
  have h4 := h (gS f 3 x y = true) (mkE 3 x y (y + 1))
  omega
theorem sidesR_len (f : Nat → Bool) (y : Int) : ∀ k, (sidesR f y k).length ≤ 4 * k
  | 0 => by simp [sidesR]
  | k + 1 => by
    have := sidesR_len f y k
    have := sidesAt_len f (-40 + (k : Int)) y
    rw [sidesR_succ, List.length_append]
    omega
theorem sidesU_len (f : Nat → Bool) : ∀ k, (sidesU f k).length ≤ 320 * k
  | 0 => by simp [sidesU]
  | k + 1 => by
    have := sidesU_len f k
    have := sidesR_len f (-40 + (k : Int)) 80
    rw [sidesU_succ, List.length_append]
    omega
theorem mem_sidesAt {f : Nat → Bool} {x y : Int} {s : R4} : s ∈ sidesAt f x y ↔ (gS f 0 y x = true ∧ s = mkE 0 y x (x + 1)) ∨ (gS f 2 (x + 1) y = true ∧ s = mkE 2 (x + 1) y (y + 1)) ∨ (gS f 1 (y + 1) x = true ∧ s = mkE 1 (y + 1) x (x + 1)) ∨ (gS f 3 x y = true ∧ s = mkE 3 x y (y + 1)) := by
  have h : ∀ (b : Prop) [Decidable b] (e : R4), s ∈ (if b then [e] else []) ↔ b ∧ s = e := fun b _ e => by split <;> simp [*]
  unfold sidesAt
  simp only [List.mem_append, h]
  constructor
  · rintro (((h | h) | h) | h)
    · exact .inl h
    · exact .inr (.inl h)
    · exact .inr (.inr (.inl h))
    · exact .inr (.inr (.inr h))
  · rintro (h | h | h | h)
    · exact .inl (.inl (.inl h))
    · exact .inl (.inl (.inr h))
    · exact .inl (.inr h)
    · exact .inr h
/-- The sides are what they should be. -/
theorem mem_sides {f : Nat → Bool} {s : R4} : s ∈ sidesU f 80 ↔ ∃ (o : Nat) (c t : Int), o < 4 ∧ gS f o c t = true ∧ s = mkE o c t (t + 1) := by
  have key : s ∈ sidesU f 80 ↔ ∃ x y : Int, ((-40 ≤ x ∧ x ≤ 39) ∧ (-40 ≤ y ∧ y ≤ 39)) ∧ s ∈ sidesAt f x y := by
    unfold sidesU sidesR
    simp only [List.mem_flatMap, List.mem_range]
    constructor
    · rintro ⟨j, hj, i, hi, h⟩
      exact ⟨_, _, by omega, h⟩
    · rintro ⟨x, y, hb, h⟩
      refine ⟨(y + 40).toNat, by omega, (x + 40).toNat, by omega, ?_⟩
      rwa [show -40 + (((y + 40).toNat : Nat) : Int) = y by omega, show -40 + (((x + 40).toNat : Nat) : Int) = x by omega]
  rw [key]
  constructor
  · rintro ⟨x, y, -, h⟩
    rcases mem_sidesAt.1 h with ⟨g, rfl⟩ | ⟨g, rfl⟩ | ⟨g, rfl⟩ | ⟨g, rfl⟩
    · exact ⟨0, _, _, by omega, g, rfl⟩
    · exact ⟨2, _, _, by omega, g, rfl⟩
    · exact ⟨1, _, _, by omega, g, rfl⟩
    · exact ⟨3, _, _, by omega, g, rfl⟩
  · rintro ⟨o, c, t, ho, h, rfl⟩
    rcases o4 ho with rfl | rfl | rfl | rfl
    · exact ⟨t, c, hasB_t (gS_c.1 h), mem_sidesAt.2 (.inl ⟨h, rfl⟩)⟩
    · refine ⟨t, c - 1, hasB_t (gS_c.2.1 h), mem_sidesAt.2 (.inr (.inr (.inl ?_)))⟩
      rw [Int.sub_add_cancel]
      exact ⟨h, rfl⟩
    · refine ⟨c - 1, t, hasB_t (gS_c.2.2.1 h), mem_sidesAt.2 (.inr (.inl ?_))⟩
      rw [Int.sub_add_cancel]
      exact ⟨h, rfl⟩
    · exact ⟨c, t, hasB_t (gS_c.2.2.2 h), mem_sidesAt.2 (.inr (.inr (.inr ⟨h, rfl⟩)))⟩
/-- Is a side the first one of its edge? -/
def firstB (f : Nat → Bool) (o : Nat) (c t : Int) : Bool := if o = 0 ∨ o = 2 then !gS f o c (t - 1) else !gS f o c (t + 1)
/-- The edges are those of the first sides. -/
theorem edge_iff {f : Nat → Bool} {e : R4} : IsEdge f e ↔ ∃ (o : Nat) (c t lo hi : Int), o < 4 ∧ gS f o c t = true ∧ firstB f o c t = true ∧ MaxI (gS f o c) lo hi ∧ lo ≤ t ∧ t < hi ∧ e = mkE o c lo hi := by
  constructor
  · rintro ⟨o, c, lo, hi, ho, h, rfl⟩
    by_cases hc : o = 0 ∨ o = 2
    · exact ⟨o, c, lo, lo, hi, ho, h.2.1 lo (Int.le_refl _) h.1, by unfold firstB; rw [if_pos hc, h.2.2.1]; rfl, h, Int.le_refl _, h.1, rfl⟩
    · have := h.1
      exact ⟨o, c, hi - 1, lo, hi, ho, h.2.1 (hi - 1) (by omega) (by omega), by unfold firstB; rw [if_neg hc, Int.sub_add_cancel, h.2.2.2]; rfl, h, by omega, by omega, rfl⟩
  · rintro ⟨o, c, t, lo, hi, ho, -, -, h, -, -, rfl⟩
    exact ⟨o, c, lo, hi, ho, h, rfl⟩

/-- The sides of an edge. -/
def unitsE (e : R4) : List R4 :=
  if e.b = e.d then
    (if e.a < e.c then (List.range (e.c - e.a).toNat).map fun i : Nat => mkE 0 e.b (e.a + (i : Int)) (e.a + (i : Int) + 1)
     else (List.range (e.a - e.c).toNat).map fun i : Nat => mkE 1 e.b (e.c + (i : Int)) (e.c + (i : Int) + 1))
  else
    (if e.b < e.d then (List.range (e.d - e.b).toNat).map fun i : Nat => mkE 2 e.a (e.b + (i : Int)) (e.b + (i : Int) + 1)
     else (List.range (e.b - e.d).toNat).map fun i : Nat => mkE 3 e.a (e.d + (i : Int)) (e.d + (i : Int) + 1))
theorem units_mk {o : Nat} {c lo hi : Int} (ho : o < 4) (h : lo < hi) : unitsE (mkE o c lo hi) = (List.range (hi - lo).toNat).map fun i : Nat => mkE o c (lo + (i : Int)) (lo + (i : Int) + 1) := by
  rcases o4 ho with rfl | rfl | rfl | rfl <;> simp only [unitsE, mkE]
  · rw [if_pos trivial, if_pos h]
  · rw [if_pos trivial, if_neg (by omega)]
  · rw [if_neg (by omega), if_pos h]
  · rw [if_neg (by omega), if_neg (by omega)]
def lenE (e : R4) : Int := max (e.c - e.a) (e.a - e.c) + max (e.d - e.b) (e.b - e.d)
theorem lenE_mk {o : Nat} {c lo hi : Int} (ho : o < 4) (h : lo < hi) : lenE (mkE o c lo hi) = hi - lo := by
  rcases o4 ho with rfl | rfl | rfl | rfl <;> simp only [lenE, mkE] <;> omega
theorem mem_units {o : Nat} {c lo hi : Int} (ho : o < 4) (h : lo < hi) {s : R4} : s ∈ unitsE (mkE o c lo hi) ↔ ∃ t, lo ≤ t ∧ t < hi ∧ s = mkE o c t (t + 1) := by
  rw [units_mk ho h, List.mem_map]
  simp only [List.mem_range]
  constructor
  · rintro ⟨i, hi, rfl⟩
    exact ⟨_, by omega, by omega, rfl⟩
  · rintro ⟨t, h1, h2, rfl⟩
    exact ⟨(t - lo).toNat, by omega, by rw [show lo + (((t - lo).toNat : Nat) : Int) = t by omega]⟩
theorem sides_nodup (f : Nat → Bool) : (sidesU f 80).Nodup := by
  have own : ∀ {x y : Int} {s : R4}, s ∈ sidesAt f x y → (x = if s.b = s.d then min s.a s.c else if s.b < s.d then s.a - 1 else s.a) ∧ (y = if s.b = s.d then (if s.a < s.c then s.b else s.b - 1) else min s.b s.d) := by
    intro x y s h
    rcases mem_sidesAt.1 h with ⟨-, rfl⟩ | ⟨-, rfl⟩ | ⟨-, rfl⟩ | ⟨-, rfl⟩ <;> simp only [mkE] <;> (constructor <;> (first | omega | (simp; done) | (simp; omega)))
  have at1 : ∀ x y, (sidesAt f x y).Nodup := by
    intro x y
    have h : ∀ (b : Prop) [Decidable b] (e : R4), (if b then [e] else []).Nodup := fun b _ e => by split <;> simp
    have m : ∀ (b : Prop) [Decidable b] (e s : R4), s ∈ (if b then [e] else []) → s = e := fun b _ e s hs => by split at hs <;> simp_all
    unfold sidesAt
    simp only [List.nodup_append]
    refine ⟨⟨⟨h _ _, h _ _, ?_⟩, h _ _, ?_⟩, h _ _, ?_⟩
    · intro a ha b hb e
      rw [m _ _ _ ha, m _ _ _ hb] at e
      simp only [mkE, R4.mk.injEq] at e
      omega
    · intro a ha b hb e
      rcases List.mem_append.1 ha with ha | ha <;> rw [m _ _ _ ha, m _ _ _ hb] at e <;> simp only [mkE, R4.mk.injEq] at e <;> omega
    · intro a ha b hb e
      rcases List.mem_append.1 ha with ha | ha
      · rcases List.mem_append.1 ha with ha | ha <;> rw [m _ _ _ ha, m _ _ _ hb] at e <;> simp only [mkE, R4.mk.injEq] at e <;> omega
      · rw [m _ _ _ ha, m _ _ _ hb] at e
        simp only [mkE, R4.mk.injEq] at e
        omega
  have row : ∀ y, (sidesR f y 80).Nodup := by
    intro y
    unfold sidesR List.Nodup
    rw [List.pairwise_flatMap]
    refine ⟨fun j _ => at1 _ _, List.nodup_range.imp fun {i j} hne a ha b hb e => hne ?_⟩
    have h1 := (own ha).1
    have h2 := (own hb).1
    rw [← e] at h2
    have := h1.trans h2.symm
    omega
  unfold sidesU List.Nodup
  rw [List.pairwise_flatMap]
  refine ⟨fun j _ => row _, List.nodup_range.imp fun {i j} hne a ha b hb e => hne ?_⟩
  unfold sidesR at ha hb
  obtain ⟨i1, -, ha⟩ := List.mem_flatMap.1 ha
  obtain ⟨i2, -, hb⟩ := List.mem_flatMap.1 hb
  have h1 := (own ha).2
  have h2 := (own hb).2
  rw [← e] at h2
  have := h1.trans h2.symm
  omega
/-- The lengths of the edges add up to the number of sides. -/
theorem edges_len {f : Nat → Bool} {L : List R4} (h : EdgesOf f L) : (L.map lenE).sum = ((sidesU f 80).length : Int) := by
  have hp : (L.flatMap unitsE).Perm (sidesU f 80) := by
    refine (List.perm_ext_iff_of_nodup ?_ (sides_nodup f)).2 fun s => ?_
    · unfold List.Nodup
      rw [List.pairwise_flatMap]
      refine ⟨fun e he => ?_, h.nodup.imp_of_mem fun {e g} he hg hne a ha b hb eab => hne ?_⟩
      · obtain ⟨o, c, lo, hi, ho, hm, rfl⟩ := (h.2 e).1 he
        rw [units_mk ho hm.1]
        refine List.pairwise_map.2 (List.nodup_range.imp fun {i j} hne e => hne ?_)
        obtain ⟨-, -, e1, -⟩ := mkE_inj ho ho (by omega) (by omega) e
        omega
      · obtain ⟨o, c, lo, hi, ho, hm, rfl⟩ := (h.2 e).1 he
        obtain ⟨o', c', lo', hi', ho', hm', rfl⟩ := (h.2 g).1 hg
        obtain ⟨t, t1, t2, rfl⟩ := (mem_units ho hm.1).1 ha
        obtain ⟨t', t3, t4, rfl⟩ := (mem_units ho' hm'.1).1 hb
        obtain ⟨e1, e2, e3, -⟩ := mkE_inj ho ho' (by omega) (by omega) eab
        exact edge_eq hm hm' e1 e2 t1 t2 (by omega) (by omega)
    · rw [List.mem_flatMap, mem_sides]
      constructor
      · rintro ⟨e, he, hs⟩
        obtain ⟨o, c, lo, hi, ho, hm, rfl⟩ := (h.2 e).1 he
        obtain ⟨t, t1, t2, rfl⟩ := (mem_units ho hm.1).1 hs
        exact ⟨o, c, t, ho, hm.2.1 t t1 t2, rfl⟩
      · rintro ⟨o, c, t, ho, hg, rfl⟩
        obtain ⟨lo, hi, hm, t1, t2⟩ := MaxI.ex (gS_b f o c) hg
        exact ⟨mkE o c lo hi, (h.2 _).2 ⟨o, c, lo, hi, ho, hm, rfl⟩, (mem_units ho hm.1).2 ⟨t, t1, t2, rfl⟩⟩
  rw [← hp.length_eq]
  have hl : ∀ l : List R4, (∀ e, e ∈ l → IsEdge f e) → (l.map lenE).sum = ((l.flatMap unitsE).length : Int) := by
    intro l
    induction l with
    | nil => intro _; rfl
    | cons e l ih =>
      intro hl
      obtain ⟨o, c, lo, hi, ho, hm, he⟩ := hl e (by simp)
      have hlt := hm.1
      rw [List.map_cons, List.sum_cons, ih (fun g hg => hl g (by simp [hg])), List.flatMap_cons, List.length_append, he, lenE_mk ho hlt, units_mk ho hlt, List.length_map, List.length_range]
      omega
  exact hl L fun e he => (h.2 e).1 he
end Go.Proofs.YtfbalpkjcfdakaaDoor
