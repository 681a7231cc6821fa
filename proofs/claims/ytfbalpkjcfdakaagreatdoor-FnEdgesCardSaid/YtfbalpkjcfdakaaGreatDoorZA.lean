/- The directed sides of a set's boundary, its edges; sorted lists. No program's run in it. -/
import Derived.Test.YtfbalpkjcfdakaaGreatDoorQE
import Derived.Test.YtfbalpkjcfdakaaGreatDoorQS
import Derived.Lib.Hide
namespace Go.Proofs.YtfbalpkjcfdakaaGreatDoor
open Go.RowKit
set_option linter.unusedVariables false
set_option linter.unusedSimpArgs false

/-- Is the side number t of the line c, in the direction o, part of the boundary? -/
def gS (f : Nat → Bool) (o : Nat) (c t : Int) : Bool :=
  match o with
  | 0 => hasB f t c && !hasB f t (c - 1)
  | 1 => hasB f t (c - 1) && !hasB f t c
  | 2 => hasB f (c - 1) t && !hasB f c t
  | _ => hasB f c t && !hasB f (c - 1) t
/-- The edge of the sides lo to hi - 1. -/
def mkE (o : Nat) (c lo hi : Int) : R4 :=
  match o with
  | 0 => ⟨lo, c, hi, c⟩
  | 1 => ⟨hi, c, lo, c⟩
  | 2 => ⟨c, lo, c, hi⟩
  | _ => ⟨c, hi, c, lo⟩
def MaxI (g : Int → Bool) (lo hi : Int) : Prop := lo < hi ∧ (∀ t, lo ≤ t → t < hi → g t = true) ∧ g (lo - 1) = false ∧ g hi = false
def IsEdge (f : Nat → Bool) (e : R4) : Prop := ∃ (o : Nat) (c lo hi : Int), o < 4 ∧ MaxI (gS f o c) lo hi ∧ e = mkE o c lo hi

theorem o4 {o : Nat} (h : o < 4) : o = 0 ∨ o = 1 ∨ o = 2 ∨ o = 3 := by omega
theorem mkE_inj {o o' : Nat} {c lo hi c' lo' hi' : Int} (h : o < 4) (h' : o' < 4) (l : lo < hi) (l' : lo' < hi') (e : mkE o c lo hi = mkE o' c' lo' hi') : o = o' ∧ c = c' ∧ lo = lo' ∧ hi = hi' := by
  rcases o4 h with rfl | rfl | rfl | rfl <;> rcases o4 h' with rfl | rfl | rfl | rfl <;> simp only [mkE, R4.mk.injEq] at e <;> omega
theorem MaxI.eq {g : Int → Bool} {lo hi lo' hi' t : Int} (h : MaxI g lo hi) (h' : MaxI g lo' hi') (t1 : lo ≤ t) (t2 : t < hi) (t3 : lo' ≤ t) (t4 : t < hi') : lo = lo' ∧ hi = hi' := by
  obtain ⟨a1, a2, a3, a4⟩ := h
  obtain ⟨b1, b2, b3, b4⟩ := h'
  constructor
  · rcases Int.lt_trichotomy lo lo' with h | h | h
    · rw [a2 (lo' - 1) (by omega) (by omega)] at b3; cases b3
    · exact h
    · rw [b2 (lo - 1) (by omega) (by omega)] at a3; cases a3
  · rcases Int.lt_trichotomy hi hi' with h | h | h
    · rw [b2 hi (by omega) (by omega)] at a4; cases a4
    · exact h
    · rw [a2 hi' (by omega) (by omega)] at b4; cases b4
theorem down_ex {g : Int → Bool} (hb : ∀ t, g t = true → -41 < t ∧ t < 41) : ∀ (n : Nat) (t : Int), g t = true → t + 41 ≤ n → ∃ lo, lo ≤ t ∧ (∀ s, lo ≤ s → s ≤ t → g s = true) ∧ g (lo - 1) = false
  | 0, t, h, hn => by have := hb t h; omega
  | n + 1, t, h, hn => by
    cases hc : g (t - 1) with
    | false => exact ⟨t, Int.le_refl _, fun s h1 h2 => by obtain rfl : s = t := by omega
                                                          exact h, hc⟩
    | true =>
      obtain ⟨lo, h1, h2, h3⟩ := down_ex hb n (t - 1) hc (by omega)
      exact ⟨lo, by omega, fun s k1 k2 => by
        by_cases e : s = t
        · rw [e]; exact h
        · exact h2 s k1 (by omega), h3⟩
theorem up_ex {g : Int → Bool} (hb : ∀ t, g t = true → -41 < t ∧ t < 41) : ∀ (n : Nat) (t : Int), g t = true → 41 - t ≤ n → ∃ hi, t < hi ∧ (∀ s, t ≤ s → s < hi → g s = true) ∧ g hi = false
  | 0, t, h, hn => by have := hb t h; omega
  | n + 1, t, h, hn => by
    cases hc : g (t + 1) with
    | false => exact ⟨t + 1, by omega, fun s h1 h2 => by obtain rfl : s = t := by omega
                                                         exact h, hc⟩
    | true =>
      obtain ⟨hi, h1, h2, h3⟩ := up_ex hb n (t + 1) hc (by omega)
      exact ⟨hi, by omega, fun s k1 k2 => by
        by_cases e : s = t
        · rw [e]; exact h
        · exact h2 s (by omega) k2, h3⟩
theorem MaxI.ex {g : Int → Bool} {t : Int} (hb : ∀ t, g t = true → -41 < t ∧ t < 41) (h : g t = true) : ∃ lo hi, MaxI g lo hi ∧ lo ≤ t ∧ t < hi := by
  have := hb t h
  obtain ⟨lo, h1, h2, h3⟩ := down_ex hb (t + 41).toNat t h (by omega)
  obtain ⟨hi, k1, k2, k3⟩ := up_ex hb (41 - t).toNat t h (by omega)
  exact ⟨lo, hi, ⟨by omega, fun s s1 s2 => by
    by_cases e : s ≤ t
    · exact h2 s s1 e
    · exact k2 s (by omega) s2, h3, k3⟩, h1, k1⟩
theorem hasB_t {f : Nat → Bool} {x y : Int} (h : hasB f x y = true) : (-40 ≤ x ∧ x ≤ 39) ∧ (-40 ≤ y ∧ y ≤ 39) := by
  unfold hasB at h
  rw [Bool.and_eq_true] at h
  exact inC_t h.1
theorem gS_c {f : Nat → Bool} {c t : Int} : (gS f 0 c t = true → hasB f t c = true) ∧ (gS f 1 c t = true → hasB f t (c - 1) = true) ∧ (gS f 2 c t = true → hasB f (c - 1) t = true) ∧ (gS f 3 c t = true → hasB f c t = true) := by
  refine ⟨fun h => ?_, fun h => ?_, fun h => ?_, fun h => ?_⟩ <;> (simp only [gS, Bool.and_eq_true] at h; exact h.1)
theorem gS_t {f : Nat → Bool} {o : Nat} {c t : Int} (h : gS f o c t = true) : (-40 ≤ t ∧ t ≤ 39) ∧ (-40 ≤ c ∧ c ≤ 40) := by
  unfold gS at h
  split at h <;> rw [Bool.and_eq_true] at h <;> have := hasB_t h.1 <;> omega
theorem gS_b (f : Nat → Bool) (o : Nat) (c : Int) : ∀ t, gS f o c t = true → -41 < t ∧ t < 41 := fun t h => by have := gS_t h; omega
theorem MaxI.b {f : Nat → Bool} {o : Nat} {c lo hi : Int} (h : MaxI (gS f o c) lo hi) : (-40 ≤ lo ∧ hi ≤ 40) ∧ (-40 ≤ c ∧ c ≤ 40) := by
  have h1 := gS_t (h.2.1 lo (Int.le_refl _) h.1)
  have h2 := gS_t (h.2.1 (hi - 1) (by have := h.1; omega) (by omega))
  omega
/-- Two edges of one set that share a side are one. -/
theorem edge_eq {f : Nat → Bool} {o o' : Nat} {c lo hi c' lo' hi' t : Int} (h : MaxI (gS f o c) lo hi) (h' : MaxI (gS f o' c') lo' hi') (e1 : o = o') (e2 : c = c') (t1 : lo ≤ t) (t2 : t < hi) (t3 : lo' ≤ t) (t4 : t < hi') : mkE o c lo hi = mkE o' c' lo' hi' := by
  subst e1 e2
  obtain ⟨rfl, rfl⟩ := h.eq h' t1 t2 t3 t4
  rfl

/-- The order of edges. -/
def ltE (e g : R4) : Prop := e.b < g.b ∨ e.b = g.b ∧ (e.a < g.a ∨ e.a = g.a ∧ (e.d < g.d ∨ e.d = g.d ∧ e.c < g.c))
instance (e g : R4) : Decidable (ltE e g) := by unfold ltE; infer_instance
theorem ltE_irr (e : R4) : ¬ ltE e e := by unfold ltE; omega
theorem ltE_trans {e g h : R4} (h1 : ltE e g) (h2 : ltE g h) : ltE e h := by unfold ltE at *; omega
theorem R4_ext {e g : R4} (h1 : e.a = g.a) (h2 : e.b = g.b) (h3 : e.c = g.c) (h4 : e.d = g.d) : e = g := by
  cases e; cases g; simp only at h1 h2 h3 h4; subst h1 h2 h3 h4; rfl
theorem ltE_tot {e g : R4} (h1 : ¬ ltE e g) (h2 : e ≠ g) : ltE g e := by
  have h3 : ¬ (e.a = g.a ∧ e.b = g.b ∧ e.c = g.c ∧ e.d = g.d) := fun ⟨k1, k2, k3, k4⟩ => h2 (R4_ext k1 k2 k3 k4)
  unfold ltE at *
  omega

/-- Sorted lists with the same members are equal. -/
theorem sorted_ext {α : Type} {lt : α → α → Prop} (irr : ∀ a, ¬ lt a a) (tr : ∀ {a b c}, lt a b → lt b c → lt a c) : ∀ {L L' : List α}, L.Pairwise lt → L'.Pairwise lt → (∀ e, e ∈ L ↔ e ∈ L') → L = L'
  | [], [], _, _, _ => rfl
  | [], b :: l', _, _, h => absurd ((h b).2 (by simp)) (by simp)
  | a :: l, [], _, _, h => absurd ((h a).1 (by simp)) (by simp)
  | a :: l, b :: l', h1, h2, h => by
    rw [List.pairwise_cons] at h1 h2
    have e : a = b := by
      rcases List.mem_cons.1 ((h a).1 (by simp)) with e | e
      · exact e
      · rcases List.mem_cons.1 ((h b).2 (by simp)) with e' | e'
        · exact e'.symm
        · exact absurd (tr (h1.1 b e') (h2.1 a e)) (irr a)
    subst e
    rw [sorted_ext irr tr h1.2 h2.2 fun e => ⟨fun he => by
      rcases List.mem_cons.1 ((h e).1 (by simp [he])) with e' | e'
      · exact absurd (e' ▸ h1.1 e he) (irr _)
      · exact e', fun he => by
      rcases List.mem_cons.1 ((h e).2 (by simp [he])) with e' | e'
      · exact absurd (e' ▸ h2.1 e he) (irr _)
      · exact e'⟩]
/-- An element put into a sorted list behind those that are less. -/
theorem put_sorted {α : Type} {lt : α → α → Prop} (tr : ∀ {a b c}, lt a b → lt b c → lt a c) (tot : ∀ {a b}, ¬ lt a b → a ≠ b → lt b a) {L : List α} (h : L.Pairwise lt) (e : α) (i : Nat) (hi : i ≤ L.length) (h1 : ∀ j a, j < i → L[j]? = some a → lt a e) (h2 : ∀ a, L[i]? = some a → ¬ lt a e ∧ a ≠ e) :
    (L.take i ++ e :: L.drop i).Pairwise lt ∧ ∀ a, a ∈ L.take i ++ e :: L.drop i ↔ a = e ∨ a ∈ L := by
  have hs := h
  rw [← List.take_append_drop i L, List.pairwise_append] at hs
  obtain ⟨p1, p2, p3⟩ := hs
  have t1 : ∀ a, a ∈ L.take i → lt a e := fun a ha => by
    obtain ⟨j, hj⟩ := List.getElem?_of_mem ha
    have hji : j < i := by
      have := (List.getElem?_eq_some_iff.1 hj).1
      rw [List.length_take] at this
      omega
    rw [List.getElem?_take_of_lt hji] at hj
    exact h1 j a hji hj
  have t2 : ∀ a, a ∈ L.drop i → lt e a := fun a ha => by
    cases hd : L.drop i with
    | nil => rw [hd] at ha; simp at ha
    | cons b l =>
      have hb : L[i]? = some b := by
        have : (L.drop i)[0]? = some b := by rw [hd]; rfl
        rwa [List.getElem?_drop, Nat.add_zero] at this
      have := h2 b hb
      have lb := tot this.1 this.2
      rw [hd] at ha p2
      rcases List.mem_cons.1 ha with rfl | ha
      · exact lb
      · exact tr lb ((List.pairwise_cons.1 p2).1 a ha)
  constructor
  · rw [List.pairwise_append, List.pairwise_cons]
    refine ⟨p1, ⟨t2, p2⟩, fun a ha b hb => ?_⟩
    rcases List.mem_cons.1 hb with rfl | hb
    · exact t1 a ha
    · exact p3 a ha b hb
  · intro a
    rw [List.mem_append, List.mem_cons]
    have : a ∈ L ↔ a ∈ L.take i ∨ a ∈ L.drop i := by rw [← List.mem_append, List.take_append_drop]
    rw [this]
    constructor
    · rintro (h | h | h)
      · exact .inr (.inl h)
      · exact .inl h
      · exact .inr (.inr h)
    · rintro (h | h | h)
      · exact .inr (.inl h)
      · exact .inl h
      · exact .inr (.inr h)

/-- The sorted edges of a set. -/
def EdgesOf (f : Nat → Bool) (L : List R4) : Prop := L.Pairwise ltE ∧ ∀ e, e ∈ L ↔ IsEdge f e
theorem EdgesOf.uniq {f : Nat → Bool} {L L' : List R4} (h : EdgesOf f L) (h' : EdgesOf f L') : L = L' := sorted_ext ltE_irr ltE_trans h.1 h'.1 fun e => (h.2 e).trans (h'.2 e).symm
theorem EdgesOf.nodup {f : Nat → Bool} {L : List R4} (h : EdgesOf f L) : L.Nodup := h.1.imp fun {a b} h e => by subst e; exact ltE_irr _ h

/-- The sides around a unit cell. -/
def sidesAt (f : Nat → Bool) (x y : Int) : List R4 :=
  (((if gS f 0 y x = true then [mkE 0 y x (x + 1)] else []) ++ (if gS f 2 (x + 1) y = true then [mkE 2 (x + 1) y (y + 1)] else [])) ++ (if gS f 1 (y + 1) x = true then [mkE 1 (y + 1) x (x + 1)] else [])) ++ (if gS f 3 x y = true then [mkE 3 x y (y + 1)] else [])
def sidesR (f : Nat → Bool) (y : Int) (k : Nat) : List R4 := (List.range k).flatMap fun j : Nat => sidesAt f (-40 + (j : Int)) y
def sidesU (f : Nat → Bool) (k : Nat) : List R4 := (List.range k).flatMap fun j : Nat => sidesR f (-40 + (j : Int)) 80
theorem sidesR_succ (f : Nat → Bool) (y : Int) (k : Nat) : sidesR f y (k + 1) = sidesR f y k ++ sidesAt f (-40 + (k : Int)) y := by simp [sidesR, List.range_succ]
theorem sidesU_succ (f : Nat → Bool) (k : Nat) : sidesU f (k + 1) = sidesU f k ++ sidesR f (-40 + (k : Int)) 80 := by simp [sidesU, List.range_succ]
theorem sidesAt_len (f : Nat → Bool) (x y : Int) : (sidesAt f x y).length ≤ 4 := by
  unfold sidesAt
  simp only [List.length_append]
  have h : ∀ (b : Prop) [Decidable b] (e : R4), (if b then [e] else []).length ≤ 1 := fun b _ e => by split <;> simp
  have h1 := h (gS f 0 y x = true) (mkE 0 y x (x + 1))
  have h2 := h (gS f 2 (x + 1) y = true) (mkE 2 (x + 1) y (y + 1))
  have h3 := h (gS f 1 (y + 1) x = true) (mkE 1 (y + 1) x (x + 1))
  have h4 := h (gS f 3 x y = true) (mkE 3 x y (y + 1))
  omega
theorem sidesR_len (f : Nat → Bool) (y : Int) : ∀ k, (sidesR f y k).length ≤ 4 * k
  | 0 => by simp [sidesR]
  | k + 1 => by
    have := sidesR_len f y k
    have := sidesAt_len f (-40 + (k : Int)) y
    rw [sidesR_succ, List.length_append]
    omega
theorem sidesU_len (f : Nat → Bool) : ∀ k, (sidesU f k).length ≤ 320 * k
  | 0 => by simp [sidesU]
  | k + 1 => by
    have := sidesU_len f k
    have := sidesR_len f (-40 + (k : Int)) 80
    rw [sidesU_succ, List.length_append]
    omega
theorem mem_sidesAt {f : Nat → Bool} {x y : Int} {s : R4} : s ∈ sidesAt f x y ↔ (gS f 0 y x = true ∧ s = mkE 0 y x (x + 1)) ∨ (gS f 2 (x + 1) y = true ∧ s = mkE 2 (x + 1) y (y + 1)) ∨ (gS f 1 (y + 1) x = true ∧ s = mkE 1 (y + 1) x (x + 1)) ∨ (gS f 3 x y = true ∧ s = mkE 3 x y (y + 1)) := by
  have h : ∀ (b : Prop) [Decidable b] (e : R4), s ∈ (if b then [e] else []) ↔ b ∧ s = e := fun b _ e => by split <;> simp [*]
  unfold sidesAt
  simp only [List.mem_append, h]
  constructor
  · rintro (((h | h) | h) | h)
    · exact .inl h
    · exact .inr (.inl h)
    · exact .inr (.inr (.inl h))
    · exact .inr (.inr (.inr h))
  · rintro (h | h | h | h)
    · exact .inl (.inl (.inl h))
    · exact .inl (.inl (.inr h))
    · exact .inl (.inr h)
    · exact .inr h
/-- The sides are what they should be. -/
theorem mem_sides {f : Nat → Bool} {s : R4} : s ∈ sidesU f 80 ↔ ∃ (o : Nat) (c t : Int), o < 4 ∧ gS f o c t = true ∧ s = mkE o c t (t + 1) := by
  have key : s ∈ sidesU f 80 ↔ ∃ x y : Int, ((-40 ≤ x ∧ x ≤ 39) ∧ (-40 ≤ y ∧ y ≤ 39)) ∧ s ∈ sidesAt f x y := by
    unfold sidesU sidesR
    simp only [List.mem_flatMap, List.mem_range]
    constructor
    · rintro ⟨j, hj, i, hi, h⟩
      exact ⟨_, _, by omega, h⟩
    · rintro ⟨x, y, hb, h⟩
      refine ⟨(y + 40).toNat, by omega, (x + 40).toNat, by omega, ?_⟩
      rwa [show -40 + (((y + 40).toNat : Nat) : Int) = y by omega, show -40 + (((x + 40).toNat : Nat) : Int) = x by omega]
  rw [key]
  constructor
  · rintro ⟨x, y, -, h⟩
    rcases mem_sidesAt.1 h with ⟨g, rfl⟩ | ⟨g, rfl⟩ | ⟨g, rfl⟩ | ⟨g, rfl⟩
    · exact ⟨0, _, _, by omega, g, rfl⟩
    · exact ⟨2, _, _, by omega, g, rfl⟩
    · exact ⟨1, _, _, by omega, g, rfl⟩
    · exact ⟨3, _, _, by omega, g, rfl⟩
  · rintro ⟨o, c, t, ho, h, rfl⟩
    rcases o4 ho with rfl | rfl | rfl | rfl
    · exact ⟨t, c, hasB_t (gS_c.1 h), mem_sidesAt.2 (.inl ⟨h, rfl⟩)⟩
    · refine ⟨t, c - 1, hasB_t (gS_c.2.1 h), mem_sidesAt.2 (.inr (.inr (.inl ?_)))⟩
      rw [Int.sub_add_cancel]
      exact ⟨h, rfl⟩
    · refine ⟨c - 1, t, hasB_t (gS_c.2.2.1 h), mem_sidesAt.2 (.inr (.inl ?_))⟩
      rw [Int.sub_add_cancel]
      exact ⟨h, rfl⟩
    · exact ⟨c, t, hasB_t (gS_c.2.2.2 h), mem_sidesAt.2 (.inr (.inr (.inr ⟨h, rfl⟩)))⟩
/-- Is a side the first one of its edge? -/
def firstB (f : Nat → Bool) (o : Nat) (c t : Int) : Bool := if o = 0 ∨ o = 2 then !gS f o c (t - 1) else !gS f o c (t + 1)
/-- The edges are those of the first sides. -/
theorem edge_iff {f : Nat → Bool} {e : R4} : IsEdge f e ↔ ∃ (o : Nat) (c t lo hi : Int), o < 4 ∧ gS f o c t = true ∧ firstB f o c t = true ∧ MaxI (gS f o c) lo hi ∧ lo ≤ t ∧ t < hi ∧ e = mkE o c lo hi := by
  constructor
  · rintro ⟨o, c, lo, hi, ho, h, rfl⟩
    by_cases hc : o = 0 ∨ o = 2
    · exact ⟨o, c, lo, lo, hi, ho, h.2.1 lo (Int.le_refl _) h.1, by unfold firstB; rw [if_pos hc, h.2.2.1]; rfl, h, Int.le_refl _, h.1, rfl⟩
    · have := h.1
      exact ⟨o, c, hi - 1, lo, hi, ho, h.2.1 (hi - 1) (by omega) (by omega), by unfold firstB; rw [if_neg hc, Int.sub_add_cancel, h.2.2.2]; rfl, h, by omega, by omega, rfl⟩
  · rintro ⟨o, c, t, lo, hi, ho, -, -, h, -, -, rfl⟩
    exact ⟨o, c, lo, hi, ho, h, rfl⟩

/-- The sides of an edge. -/
def unitsE (e : R4) : List R4 :=
  if e.b = e.d then
    (if e.a < e.c then (List.range (e.c - e.a).toNat).map fun i : Nat => mkE 0 e.b (e.a + (i : Int)) (e.a + (i : Int) + 1)
     else (List.range (e.a - e.c).toNat).map fun i : Nat => mkE 1 e.b (e.c + (i : Int)) (e.c + (i : Int) + 1))
  else
    (if e.b < e.d then (List.range (e.d - e.b).toNat).map fun i : Nat => mkE 2 e.a (e.b + (i : Int)) (e.b + (i : Int) + 1)
     else (List.range (e.b - e.d).toNat).map fun i : Nat => mkE 3 e.a (e.d + (i : Int)) (e.d + (i : Int) + 1))
theorem units_mk {o : Nat} {c lo hi : Int} (ho : o < 4) (h : lo < hi) : unitsE (mkE o c lo hi) = (List.range (hi - lo).toNat).map fun i : Nat => mkE o c (lo + (i : Int)) (lo + (i : Int) + 1) := by
  rcases o4 ho with rfl | rfl | rfl | rfl <;> simp only [unitsE, mkE]
  · rw [if_pos trivial, if_pos h]
  · rw [if_pos trivial, if_neg (by omega)]
  · rw [if_neg (by omega), if_pos h]
  · rw [if_neg (by omega), if_neg (by omega)]
def lenE (e : R4) : Int := max (e.c - e.a) (e.a - e.c) + max (e.d - e.b) (e.b - e.d)
theorem lenE_mk {o : Nat} {c lo hi : Int} (ho : o < 4) (h : lo < hi) : lenE (mkE o c lo hi) = hi - lo := by
  rcases o4 ho with rfl | rfl | rfl | rfl <;> simp only [lenE, mkE] <;> omega
theorem mem_units {o : Nat} {c lo hi : Int} (ho : o < 4) (h : lo < hi) {s : R4} : s ∈ unitsE (mkE o c lo hi) ↔ ∃ t, lo ≤ t ∧ t < hi ∧ s = mkE o c t (t + 1) := by
  rw [units_mk ho h, List.mem_map]
  simp only [List.mem_range]
  constructor
  · rintro ⟨i, hi, rfl⟩
    exact ⟨_, by omega, by omega, rfl⟩
  · rintro ⟨t, h1, h2, rfl⟩
    exact ⟨(t - lo).toNat, by omega, by rw [show lo + (((t - lo).toNat : Nat) : Int) = t by omega]⟩
theorem sides_nodup (f : Nat → Bool) : (sidesU f 80).Nodup := by
  have own : ∀ {x y : Int} {s : R4}, s ∈ sidesAt f x y → (x = if s.b = s.d then min s.a s.c else if s.b < s.d then s.a - 1 else s.a) ∧ (y = if s.b = s.d then (if s.a < s.c then s.b else s.b - 1) else min s.b s.d) := by
    intro x y s h
    rcases mem_sidesAt.1 h with ⟨-, rfl⟩ | ⟨-, rfl⟩ | ⟨-, rfl⟩ | ⟨-, rfl⟩ <;> simp only [mkE] <;> (constructor <;> (first | omega | (simp; done) | (simp; omega)))
  have at1 : ∀ x y, (sidesAt f x y).Nodup := by
    intro x y
    have h : ∀ (b : Prop) [Decidable b] (e : R4), (if b then [e] else []).Nodup := fun b _ e => by split <;> simp
    have m : ∀ (b : Prop) [Decidable b] (e s : R4), s ∈ (if b then [e] else []) → s = e := fun b _ e s hs => by split at hs <;> simp_all
    unfold sidesAt
    simp only [List.nodup_append]
    refine ⟨⟨⟨h _ _, h _ _, ?_⟩, h _ _, ?_⟩, h _ _, ?_⟩
    · intro a ha b hb e
      rw [m _ _ _ ha, m _ _ _ hb] at e
      simp only [mkE, R4.mk.injEq] at e
      omega
    · intro a ha b hb e
      rcases List.mem_append.1 ha with ha | ha <;> rw [m _ _ _ ha, m _ _ _ hb] at e <;> simp only [mkE, R4.mk.injEq] at e <;> omega
    · intro a ha b hb e
      rcases List.mem_append.1 ha with ha | ha
      · rcases List.mem_append.1 ha with ha | ha <;> rw [m _ _ _ ha, m _ _ _ hb] at e <;> simp only [mkE, R4.mk.injEq] at e <;> omega
      · rw [m _ _ _ ha, m _ _ _ hb] at e
        simp only [mkE, R4.mk.injEq] at e
        omega
  have row : ∀ y, (sidesR f y 80).Nodup := by
    intro y
    unfold sidesR List.Nodup
    rw [List.pairwise_flatMap]
    refine ⟨fun j _ => at1 _ _, List.nodup_range.imp fun {i j} hne a ha b hb e => hne ?_⟩
    have h1 := (own ha).1
    have h2 := (own hb).1
    rw [← e] at h2
    have := h1.trans h2.symm
    omega
  unfold sidesU List.Nodup
  rw [List.pairwise_flatMap]
  refine ⟨fun j _ => row _, List.nodup_range.imp fun {i j} hne a ha b hb e => hne ?_⟩
  unfold sidesR at ha hb
  obtain ⟨i1, -, ha⟩ := List.mem_flatMap.1 ha
  obtain ⟨i2, -, hb⟩ := List.mem_flatMap.1 hb
  have h1 := (own ha).2
  have h2 := (own hb).2
  rw [← e] at h2
  have := h1.trans h2.symm
  omega
/-- The lengths of the edges add up to the number of sides. -/
theorem edges_len {f : Nat → Bool} {L : List R4} (h : EdgesOf f L) : (L.map lenE).sum = ((sidesU f 80).length : Int) := by
  have hp : (L.flatMap unitsE).Perm (sidesU f 80) := by
    refine (List.perm_ext_iff_of_nodup ?_ (sides_nodup f)).2 fun s => ?_
    · unfold List.Nodup
      rw [List.pairwise_flatMap]
      refine ⟨fun e he => ?_, h.nodup.imp_of_mem fun {e g} he hg hne a ha b hb eab => hne ?_⟩
      · obtain ⟨o, c, lo, hi, ho, hm, rfl⟩ := (h.2 e).1 he
        rw [units_mk ho hm.1]
        refine List.pairwise_map.2 (List.nodup_range.imp fun {i j} hne e => hne ?_)
        obtain ⟨-, -, e1, -⟩ := mkE_inj ho ho (by omega) (by omega) e
        omega
      · obtain ⟨o, c, lo, hi, ho, hm, rfl⟩ := (h.2 e).1 he
        obtain ⟨o', c', lo', hi', ho', hm', rfl⟩ := (h.2 g).1 hg
        obtain ⟨t, t1, t2, rfl⟩ := (mem_units ho hm.1).1 ha
        obtain ⟨t', t3, t4, rfl⟩ := (mem_units ho' hm'.1).1 hb
        obtain ⟨e1, e2, e3, -⟩ := mkE_inj ho ho' (by omega) (by omega) eab
        exact edge_eq hm hm' e1 e2 t1 t2 (by omega) (by omega)
    · rw [List.mem_flatMap, mem_sides]
      constructor
      · rintro ⟨e, he, hs⟩
        obtain ⟨o, c, lo, hi, ho, hm, rfl⟩ := (h.2 e).1 he
        obtain ⟨t, t1, t2, rfl⟩ := (mem_units ho hm.1).1 hs
        exact ⟨o, c, t, ho, hm.2.1 t t1 t2, rfl⟩
      · rintro ⟨o, c, t, ho, hg, rfl⟩
        obtain ⟨lo, hi, hm, t1, t2⟩ := MaxI.ex (gS_b f o c) hg
        exact ⟨mkE o c lo hi, (h.2 _).2 ⟨o, c, lo, hi, ho, hm, rfl⟩, (mem_units ho hm.1).2 ⟨t, t1, t2, rfl⟩⟩
  rw [← hp.length_eq]
  have hl : ∀ l : List R4, (∀ e, e ∈ l → IsEdge f e) → (l.map lenE).sum = ((l.flatMap unitsE).length : Int) := by
    intro l
    induction l with
    | nil => intro _; rfl
    | cons e l ih =>
      intro hl
      obtain ⟨o, c, lo, hi, ho, hm, he⟩ := hl e (by simp)
      have hlt := hm.1
      rw [List.map_cons, List.sum_cons, ih (fun g hg => hl g (by simp [hg])), List.flatMap_cons, List.length_append, he, lenE_mk ho hlt, units_mk ho hlt, List.length_map, List.length_range]
      omega
  exact hl L fun e he => (h.2 e).1 he
end Go.Proofs.YtfbalpkjcfdakaaGreatDoor

namespace Go.Proofs.YtfbalpkjcfdakaaGreatDoor
open Go.RowKit
set_option linter.unusedVariables false
set_option linter.unusedSimpArgs false
attribute [local go_sem ↓] Go.wp_at_zero Go.wp_at_succ

/-- The slice's elements are the points (X i, Y i), below block B. -/
def PtI (B : Nat) (w : World) (a : Option Addr) (len : Nat) (X Y : Nat → Int) : Prop :=
  ∀ i, i < len → ∃ b off : Nat, a = some ⟨b, off, none⟩ ∧ b < B ∧ w.cell? ⟨b, off + i * 2, none⟩ = some (.int .i64 (X i)) ∧ w.cell? ⟨b, off + i * 2 + 1, none⟩ = some (.int .i64 (Y i))
theorem PtI.below {B : Nat} {w w' : World} {a : Option Addr} {len : Nat} {X Y : Nat → Int} (h : PtI B w a len X Y) (hb : Below B w w') : PtI B w' a len X Y := fun i hi => by
  obtain ⟨b, off, h1, h2, h3, h4⟩ := h i hi
  exact ⟨b, off, h1, h2, (hb.cell (p := ⟨b, off + i * 2, none⟩) h2).trans h3, (hb.cell (p := ⟨b, off + i * 2 + 1, none⟩) h2).trans h4⟩
def allO (X Y : Nat → Int) (len : Nat) : Bool := (List.range len).all fun i => onB (X i) (Y i)
theorem allO_f {X Y : Nat → Int} {len i : Nat} (h : i < len) (hf : onB (X i) (Y i) = false) : allO X Y len = false := by
  unfold allO
  rw [List.all_eq_false]
  exact ⟨i, List.mem_range.2 h, by simp [hf]⟩
theorem allO_t {X Y : Nat → Int} {len : Nat} (h : ∀ i, i < len → onB (X i) (Y i) = true) : allO X Y len = true := by
  unfold allO
  rw [List.all_eq_true]
  exact fun i hi => h i (List.mem_range.1 hi)
theorem areOnChip2_any (a : Option Addr) (len cap : Nat) (X Y : Nat → Int) (w : World) (hlen : len ≤ 1048576) (hP : PtI w.heap.size w a len X Y) :
    Calls Tryz.prog 78 #[.slice a len cap] w fun e w' => e = .returned (.bool (allO X Y len)) ∧ Below w.heap.size w w' := by
  go_enter Tryz.func78, Tryz.ntmps78
  go_wp2_with fail
  go_loopw [7] (fun s5 wr => ∃ i : Nat, i ≤ len ∧ s5 = .int .i64 i ∧ Below w.heap.size w wr ∧ ∀ k, k < i → onB (X k) (Y k) = true) (fun s5 _ => len - (intOf s5).toNat)
  case atStart => exact ⟨0, by omega, rfl, Below.refl _ _, fun k hk => absurd hk (by omega)⟩
  case round =>
    obtain ⟨i, hi, rfl, hW, hon⟩ := hrel
    have HON := Lib.hid hon
    clear hon
    by_cases hlt : i < len
    · obtain ⟨b1, o1, rfl, hb1, cx, cy⟩ := hP.below hW i hlt
      have q1 : (i : Int) < (len : Int) := by omega
      have q0 : (0 : Int) ≤ (i : Int) := by omega
      go_wp2_with fail
      refine (isOnChip_any _ _ _).mono ?_
      rintro e w2 ⟨rfl, bw2⟩
      cases ho : onB (X i) (Y i) with
      | false =>
        go_wp2_with fail
        go_ret
        exact ⟨ret_bool (allO_f hlt ho).symm, by (repeat (first | (with_reducible exact Below.refl _ _) | (with_reducible refine Ext.drewN ?_ _) | (with_reducible refine Below.drew ?_) | (with_reducible refine Ext.alloc ?_ _) | (with_reducible refine Ext.setCell ?_ (by simp; try omega) _) | (with_reducible refine Ext.trans ?_ (by assumption)) | (with_reducible assumption) | exact Below.refl _ _))⟩
      | true =>
        go_wp2_with fail
        go_roundw
        case rel => exact ⟨i + 1, by omega, by go_num, by (repeat (first | (with_reducible exact Below.refl _ _) | (with_reducible refine Ext.drewN ?_ _) | (with_reducible refine Below.drew ?_) | (with_reducible refine Ext.alloc ?_ _) | (with_reducible refine Ext.setCell ?_ (by simp; try omega) _) | (with_reducible refine Ext.trans ?_ (by assumption)) | (with_reducible assumption) | exact Below.refl _ _)), fun k hk => by
          by_cases e : k = i
          · subst e; exact ho
          · exact HON.out k (by omega)⟩
        case measure => simp [intOf]; omega
    · have q1 : ¬ (i : Int) < (len : Int) := by omega
      obtain rfl : i = len := by omega
      go_wp2_with fail
      go_ret
      exact ⟨ret_bool (allO_t HON.out).symm, hW⟩

def pk (a b : Int) (i : Nat) : Int := if i = 0 then a else b
theorem pts2 {w : World} {g : Nat} {a b c d : Int} (h0 : w.cell? ⟨g, 0, none⟩ = some (.int .i64 a)) (h1 : w.cell? ⟨g, 1, none⟩ = some (.int .i64 b)) (h2 : w.cell? ⟨g, 2, none⟩ = some (.int .i64 c)) (h3 : w.cell? ⟨g, 3, none⟩ = some (.int .i64 d)) :
    PtI w.heap.size w (some ⟨g, 0, none⟩) 2 (pk a c) (pk b d) := fun i hi => by
  have hg := World.block_lt_of_cell? w ⟨g, 0, none⟩ h0
  rcases (show i = 0 ∨ i = 1 by omega) with rfl | rfl
  · exact ⟨g, 0, rfl, hg, h0, h1⟩
  · exact ⟨g, 0, rfl, hg, h2, h3⟩
theorem allO2 (a b c d : Int) : allO (pk a c) (pk b d) 2 = (onB a b && onB c d) := by
  simp [allO, List.range_succ, pk]

theorem eBegin_any (a b c d : Int) (w : World) : Calls Tryz.prog 79 #[.agg #[.int .i64 a, .int .i64 b, .int .i64 c, .int .i64 d]] w fun e w' => e = .returned (.agg #[.int .i64 a, .int .i64 b]) ∧ Below w.heap.size w w' := by
  go_enter Tryz.func79, Tryz.ntmps79
  go_wp2_with fail
  first | go_ret | (refine bodyPost_ret (v := .agg #[.int .i64 a, .int .i64 b]) (by simp [*, results, Tryz.results79, go_sem]) rfl ?_)
  exact ⟨rfl, by (repeat (first | (with_reducible exact Below.refl _ _) | (with_reducible refine Ext.drewN ?_ _) | (with_reducible refine Below.drew ?_) | (with_reducible refine Ext.alloc ?_ _) | (with_reducible refine Ext.setCell ?_ (by simp; try omega) _) | (with_reducible refine Ext.trans ?_ (by assumption)) | (with_reducible assumption) | exact Below.refl _ _))⟩
theorem eEnd_any (a b c d : Int) (w : World) : Calls Tryz.prog 80 #[.agg #[.int .i64 a, .int .i64 b, .int .i64 c, .int .i64 d]] w fun e w' => e = .returned (.agg #[.int .i64 c, .int .i64 d]) ∧ Below w.heap.size w w' := by
  go_enter Tryz.func80, Tryz.ntmps80
  go_wp2_with fail
  first | go_ret | (refine bodyPost_ret (v := .agg #[.int .i64 c, .int .i64 d]) (by simp [*, results, Tryz.results80, go_sem]) rfl ?_)
  exact ⟨rfl, by (repeat (first | (with_reducible exact Below.refl _ _) | (with_reducible refine Ext.drewN ?_ _) | (with_reducible refine Below.drew ?_) | (with_reducible refine Ext.alloc ?_ _) | (with_reducible refine Ext.setCell ?_ (by simp; try omega) _) | (with_reducible refine Ext.trans ?_ (by assumption)) | (with_reducible assumption) | exact Below.refl _ _))⟩
theorem edgeBetween_any (a b c d : Int) (w : World) : Calls Tryz.prog 109 #[.agg #[.int .i64 a, .int .i64 b], .agg #[.int .i64 c, .int .i64 d]] w fun e w' => e = .returned (.agg #[.int .i64 a, .int .i64 b, .int .i64 c, .int .i64 d]) ∧ Below w.heap.size w w' := by
  go_enter Tryz.func109, Tryz.ntmps109
  go_wp2_with fail
  first | go_ret | (refine bodyPost_ret (v := .agg #[.int .i64 a, .int .i64 b, .int .i64 c, .int .i64 d]) (by simp [*, results, Tryz.results109, go_sem]) rfl ?_)
  exact ⟨rfl, by (repeat (first | (with_reducible exact Below.refl _ _) | (with_reducible refine Ext.drewN ?_ _) | (with_reducible refine Below.drew ?_) | (with_reducible refine Ext.alloc ?_ _) | (with_reducible refine Ext.setCell ?_ (by simp; try omega) _) | (with_reducible refine Ext.trans ?_ (by assumption)) | (with_reducible assumption) | exact Below.refl _ _))⟩

def hi4 (x y z u : Int) : Int := if u > (if z > (if y > x then y else x) then z else (if y > x then y else x)) then u else (if z > (if y > x then y else x) then z else (if y > x then y else x))
theorem run_max_int4 {P : Program} {w : World} (ts : Array TypeId) (t : TypeId) (k k1 k2 k3 : IntKind) (x y z u : Int) : (Builtin.max_ ts t #[.int k x, .int k1 y, .int k2 z, .int k3 u]).run P w = .ok (.int k (hi4 x y z u)) w := by
  simp only [Builtin.max_, Builtin.max2, hi4]
  simp [Builtin.max_, Builtin.max2]
attribute [local go_sem] run_max_int4

/-- Has the edge a length? -/
def elB (a b c d : Int) : Bool := (onB a b && onB c d) && !(decide (a = c) == decide (b = d))
def elV (a b c d : Int) : Int := if elB a b c d = true then max (c - a) (a - c) + max (d - b) (b - d) else -1
theorem elV_f {a b c d : Int} (h : elB a b c d = false) : elV a b c d = -1 := by simp [elV, h]
theorem elV_t {a b c d : Int} (h : elB a b c d = true) : elV a b c d = max (c - a) (a - c) + max (d - b) (b - d) := by simp [elV, h]

set_option maxHeartbeats 4000000 in
theorem implEdgeLength_any (a b c d : Int) (w : World) : Calls Tryz.prog 35 #[.agg #[.int .i64 a, .int .i64 b, .int .i64 c, .int .i64 d]] w fun e w' => e = .returned (.int .i64 (elV a b c d)) ∧ Below w.heap.size w w' := by
  have hon := allO2 a b c d
  cases h0 : (onB a b && onB c d) with
  | false =>
    rw [elV_f (by simp [elB, h0])]
    rw [h0] at hon
    go_enter Tryz.func35, Tryz.ntmps35
    go_wp2_with fail
    go_region_held3 (fun w' => w.heap.size < w'.heap.size ∧ Below w.heap.size w w' ∧ w'.cell? ⟨w.heap.size, 0, none⟩ = some (.int .i64 a) ∧ w'.cell? ⟨w.heap.size, 1, none⟩ = some (.int .i64 b) ∧ w'.cell? ⟨w.heap.size, 2, none⟩ = some (.int .i64 c) ∧ w'.cell? ⟨w.heap.size, 3, none⟩ = some (.int .i64 d))
      (first | ((try dsimp only); go_split_ands; (repeat' (with_reducible refine And.intro ?_ ?_)) <;> first | ((repeat (with_reducible refine keepS ?_ (by simp; try omega) _)); (first | (with_reducible assumption) | (with_reducible exact keepC (by assumption) (by assumption)) | (with_reducible exact keepA (by assumption) _) | (with_reducible exact keepR (by assumption) (by omega) _))) | ((try simp only [World.size_alloc, World.size_setCell, World.size_drew]); omega) | (refine Mats.below hM ?_ hM.size; (repeat (first | (with_reducible exact Below.refl _ _) | (with_reducible refine Ext.drewN ?_ _) | (with_reducible refine Below.drew ?_) | (with_reducible refine Ext.alloc ?_ _) | (with_reducible refine Ext.setCell ?_ (by simp; try omega) _) | (with_reducible refine Ext.trans ?_ (by assumption)) | (with_reducible assumption) | exact Below.refl _ _)); done) | ((repeat (first | (with_reducible exact Below.refl _ _) | (with_reducible refine Ext.drewN ?_ _) | (with_reducible refine Below.drew ?_) | (with_reducible refine Ext.alloc ?_ _) | (with_reducible refine Ext.setCell ?_ (by simp; try omega) _) | (with_reducible refine Ext.trans ?_ (by assumption)) | (with_reducible assumption) | exact Below.refl _ _)); done) | (go_keep; done)))
      (first | (go_at_call 79; refine (eBegin_any a b c d _).mono ?_; rintro e v1 ⟨rfl, bv1⟩; obtain ⟨sv1, zv1, cv1, fv1⟩ := bcell bv1; (try simp only [World.size_alloc, World.size_setCell, World.size_drew] at sv1); (try have nv1_w_0 : w.heap.size < v1.heap.size := by omega); (try have nv1_w_1 : w.heap.size + 1 < v1.heap.size := by omega); (try have nv1_w_2 : w.heap.size + 1 + 1 < v1.heap.size := by omega); (try have nv1_v2_0 : v2.heap.size < v1.heap.size := by omega); (try have nv1_v2_1 : v2.heap.size + 1 < v1.heap.size := by omega); (try have nv1_v3_0 : v3.heap.size < v1.heap.size := by omega); (try have nv1_v3_1 : v3.heap.size + 1 < v1.heap.size := by omega)) | (go_at_call 80; refine (eEnd_any a b c d _).mono ?_; rintro e v2 ⟨rfl, bv2⟩; obtain ⟨sv2, zv2, cv2, fv2⟩ := bcell bv2; (try simp only [World.size_alloc, World.size_setCell, World.size_drew] at sv2); (try have nv2_w_0 : w.heap.size < v2.heap.size := by omega); (try have nv2_w_1 : w.heap.size + 1 < v2.heap.size := by omega); (try have nv2_w_2 : w.heap.size + 1 + 1 < v2.heap.size := by omega); (try have nv2_v1_0 : v1.heap.size < v2.heap.size := by omega); (try have nv2_v1_1 : v1.heap.size + 1 < v2.heap.size := by omega); (try have nv2_v3_0 : v3.heap.size < v2.heap.size := by omega); (try have nv2_v3_1 : v3.heap.size + 1 < v2.heap.size := by omega)) | (go_at_call 78; refine (areOnChip2_any _ 2 _ (pk a c) (pk b d) _ (by omega) (pts2 (by simp [go_sem]) (by simp [go_sem]) (by simp [go_sem]) (by simp [go_sem]))).mono ?_; rintro e v3 ⟨rfl, bv3⟩; rw [hon]; obtain ⟨sv3, zv3, cv3, fv3⟩ := bcell bv3; (try simp only [World.size_alloc, World.size_setCell, World.size_drew] at sv3); (try have nv3_w_0 : w.heap.size < v3.heap.size := by omega); (try have nv3_w_1 : w.heap.size + 1 < v3.heap.size := by omega); (try have nv3_w_2 : w.heap.size + 1 + 1 < v3.heap.size := by omega); (try have nv3_v1_0 : v1.heap.size < v3.heap.size := by omega); (try have nv3_v1_1 : v1.heap.size + 1 < v3.heap.size := by omega); (try have nv3_v2_0 : v2.heap.size < v3.heap.size := by omega); (try have nv3_v2_1 : v2.heap.size + 1 < v3.heap.size := by omega)))
    all_goals
      go_wp2_with fail
      go_ret
      exact ⟨rfl, by (repeat (first | (with_reducible exact Below.refl _ _) | (with_reducible refine Ext.drewN ?_ _) | (with_reducible refine Below.drew ?_) | (with_reducible refine Ext.alloc ?_ _) | (with_reducible refine Ext.setCell ?_ (by simp; try omega) _) | (with_reducible refine Ext.trans ?_ (by assumption)) | (with_reducible assumption) | exact Below.refl _ _))⟩
  | true =>
    rw [h0] at hon
    rw [Bool.and_eq_true] at h0
    obtain ⟨⟨x1, x2⟩, x3, x4⟩ := onB_t h0.1
    obtain ⟨⟨y1, y2⟩, y3, y4⟩ := onB_t h0.2
    have e1 : IntKind.i64.wrap (c - a) = c - a := by rw [IntKind.wrap_i64]; omega
    have e2 : IntKind.i64.wrap (d - b) = d - b := by rw [IntKind.wrap_i64]; omega
    have e3 : IntKind.i64.wrap (-(c - a)) = -(c - a) := by rw [IntKind.wrap_i64]; omega
    have e4 : IntKind.i64.wrap (-(d - b)) = -(d - b) := by rw [IntKind.wrap_i64]; omega
    have p1 : decide (a = c) = (c - a == 0) := by rw [Bool.eq_iff_iff]; simp; omega
    have p2 : decide (b = d) = (d - b == 0) := by rw [Bool.eq_iff_iff]; simp; omega
    have hv : elV a b c d = if (!((c - a == 0) == (d - b == 0))) = true then max (c - a) (a - c) + max (d - b) (b - d) else -1 := by
      unfold elV elB
      rw [h0.1, h0.2, p1, p2]
      rfl
    rw [hv]
    clear hv h0 p1 p2
    cases p : (c - a == 0)
    all_goals
      cases q : (d - b == 0)
      all_goals
        go_enter Tryz.func35, Tryz.ntmps35
        go_wp2_with fail
        go_region_held3 (fun w' => w.heap.size < w'.heap.size ∧ Below w.heap.size w w' ∧ w'.cell? ⟨w.heap.size, 0, none⟩ = some (.int .i64 a) ∧ w'.cell? ⟨w.heap.size, 1, none⟩ = some (.int .i64 b) ∧ w'.cell? ⟨w.heap.size, 2, none⟩ = some (.int .i64 c) ∧ w'.cell? ⟨w.heap.size, 3, none⟩ = some (.int .i64 d))
          (first | ((try dsimp only); go_split_ands; (repeat' (with_reducible refine And.intro ?_ ?_)) <;> first | ((repeat (with_reducible refine keepS ?_ (by simp; try omega) _)); (first | (with_reducible assumption) | (with_reducible exact keepC (by assumption) (by assumption)) | (with_reducible exact keepA (by assumption) _) | (with_reducible exact keepR (by assumption) (by omega) _))) | ((try simp only [World.size_alloc, World.size_setCell, World.size_drew]); omega) | (refine Mats.below hM ?_ hM.size; (repeat (first | (with_reducible exact Below.refl _ _) | (with_reducible refine Ext.drewN ?_ _) | (with_reducible refine Below.drew ?_) | (with_reducible refine Ext.alloc ?_ _) | (with_reducible refine Ext.setCell ?_ (by simp; try omega) _) | (with_reducible refine Ext.trans ?_ (by assumption)) | (with_reducible assumption) | exact Below.refl _ _)); done) | ((repeat (first | (with_reducible exact Below.refl _ _) | (with_reducible refine Ext.drewN ?_ _) | (with_reducible refine Below.drew ?_) | (with_reducible refine Ext.alloc ?_ _) | (with_reducible refine Ext.setCell ?_ (by simp; try omega) _) | (with_reducible refine Ext.trans ?_ (by assumption)) | (with_reducible assumption) | exact Below.refl _ _)); done) | (go_keep; done)))
          (first | (go_at_call 79; refine (eBegin_any a b c d _).mono ?_; rintro e v1 ⟨rfl, bv1⟩; obtain ⟨sv1, zv1, cv1, fv1⟩ := bcell bv1; (try simp only [World.size_alloc, World.size_setCell, World.size_drew] at sv1); (try have nv1_w_0 : w.heap.size < v1.heap.size := by omega); (try have nv1_w_1 : w.heap.size + 1 < v1.heap.size := by omega); (try have nv1_w_2 : w.heap.size + 1 + 1 < v1.heap.size := by omega); (try have nv1_v2_0 : v2.heap.size < v1.heap.size := by omega); (try have nv1_v2_1 : v2.heap.size + 1 < v1.heap.size := by omega); (try have nv1_v3_0 : v3.heap.size < v1.heap.size := by omega); (try have nv1_v3_1 : v3.heap.size + 1 < v1.heap.size := by omega)) | (go_at_call 80; refine (eEnd_any a b c d _).mono ?_; rintro e v2 ⟨rfl, bv2⟩; obtain ⟨sv2, zv2, cv2, fv2⟩ := bcell bv2; (try simp only [World.size_alloc, World.size_setCell, World.size_drew] at sv2); (try have nv2_w_0 : w.heap.size < v2.heap.size := by omega); (try have nv2_w_1 : w.heap.size + 1 < v2.heap.size := by omega); (try have nv2_w_2 : w.heap.size + 1 + 1 < v2.heap.size := by omega); (try have nv2_v1_0 : v1.heap.size < v2.heap.size := by omega); (try have nv2_v1_1 : v1.heap.size + 1 < v2.heap.size := by omega); (try have nv2_v3_0 : v3.heap.size < v2.heap.size := by omega); (try have nv2_v3_1 : v3.heap.size + 1 < v2.heap.size := by omega)) | (go_at_call 78; refine (areOnChip2_any _ 2 _ (pk a c) (pk b d) _ (by omega) (pts2 (by simp [go_sem]) (by simp [go_sem]) (by simp [go_sem]) (by simp [go_sem]))).mono ?_; rintro e v3 ⟨rfl, bv3⟩; rw [hon]; obtain ⟨sv3, zv3, cv3, fv3⟩ := bcell bv3; (try simp only [World.size_alloc, World.size_setCell, World.size_drew] at sv3); (try have nv3_w_0 : w.heap.size < v3.heap.size := by omega); (try have nv3_w_1 : w.heap.size + 1 < v3.heap.size := by omega); (try have nv3_w_2 : w.heap.size + 1 + 1 < v3.heap.size := by omega); (try have nv3_v1_0 : v1.heap.size < v3.heap.size := by omega); (try have nv3_v1_1 : v1.heap.size + 1 < v3.heap.size := by omega); (try have nv3_v2_0 : v2.heap.size < v3.heap.size := by omega); (try have nv3_v2_1 : v2.heap.size + 1 < v3.heap.size := by omega)))
        all_goals
          go_wp2_with fail
          go_region
          go_wp2_with fail
          go_ret
          exact ⟨ret_int (by simp at p q ⊢; (try unfold hi4); (try omega)), by (repeat (first | (with_reducible exact Below.refl _ _) | (with_reducible refine Ext.drewN ?_ _) | (with_reducible refine Below.drew ?_) | (with_reducible refine Ext.alloc ?_ _) | (with_reducible refine Ext.setCell ?_ (by simp; try omega) _) | (with_reducible refine Ext.trans ?_ (by assumption)) | (with_reducible assumption) | exact Below.refl _ _))⟩
end Go.Proofs.YtfbalpkjcfdakaaGreatDoor

namespace Go.Proofs.YtfbalpkjcfdakaaGreatDoor
open Go.RowKit
set_option linter.unusedVariables false
set_option linter.unusedSimpArgs false
attribute [local go_sem ↓] Go.wp_at_zero Go.wp_at_succ

theorem eqPt2 (a b c d : Int) (w : World) : (Op.equalIn 10000 107 (.agg #[.int .i64 a, .int .i64 b]) (.agg #[.int .i64 c, .int .i64 d])).run Tryz.prog w = .ok (a == c && b == d) w := by
  have hq : ∀ (a b : Int) (w : World), (Op.equalIn 9999 2 (.int .i64 a) (.int .i64 b)).run Tryz.prog w = .ok (a == b) w := fun a b w => run_equalIn_int w 9998 _ _ .i64 a b Tryz.underlying2
  have hs : Tryz.prog.stoodInHeld 107 = false := by kernel_rfl
  have hu : Tryz.prog.underlying 107 = some (.struct (Tryz.prog.fieldsOf 107)) := by kernel_rfl
  rw [run_equalIn_agg w 9999 _ _ _ hu hs]
  have hp : ∀ (x0 x1 : Int) (w : World), (part 2 #[.int .i64 x0, .int .i64 x1] 0).run Tryz.prog w = .ok (.int .i64 x0) w ∧ (part 2 #[.int .i64 x0, .int .i64 x1] 1).run Tryz.prog w = .ok (.int .i64 x1) w :=
    fun _ _ _ => ⟨by kernel_rfl, by kernel_rfl⟩
  have hf : (Tryz.prog.fieldsOf 107).toList.map (fun f => (f.name, f.type, f.offset)) = [("X", 2, 0), ("Y", 2, 1)] := by kernel_rfl
  generalize (Tryz.prog.fieldsOf 107).toList = fs at hf
  rcases fs with _ | ⟨f0, _ | ⟨f1, _ | ⟨f2, r⟩⟩⟩
  · simp at hf
  · simp at hf
  · simp only [List.map_cons, List.map_nil, List.cons.injEq, Prod.mk.injEq, and_true] at hf
    obtain ⟨⟨n0, t0, o0⟩, n1, t1, o1⟩ := hf
    simp only [Op.eqFields, n0, t0, o0, n1, t1, o1]
    simp only [ne_eq, String.reduceEq, not_false_eq_true, if_true, Sem.run_bind, (hp _ _ _).1, (hp _ _ _).2, Result.andThen_ok, hq, Sem.run_ite, Sem.run_pure]
    cases h0 : a == c <;> cases h1 : b == d <;> simp
  · simp at hf

theorem l06Abs_any (n : Int) (w : World) (hn : -1000 ≤ n ∧ n ≤ 1000) : Calls Tryz.prog 146 #[.int .i64 n] w fun e w' => e = .returned (.int .i64 (max n (-n))) ∧ w = w' := by
  obtain ⟨n1, n2⟩ := hn
  have e1 : IntKind.i64.wrap (-n) = -n := by rw [IntKind.wrap_i64]; omega
  go_enter Tryz.func146, Tryz.ntmps146
  go_wp2_with fail
  all_goals
    go_ret
    exact ⟨ret_int (by omega), rfl⟩
theorem l06Length_any (a b c d : Int) (w : World) (h1 : -40 ≤ a ∧ a ≤ 40) (h2 : -40 ≤ b ∧ b ≤ 40) (h3 : -40 ≤ c ∧ c ≤ 40) (h4 : -40 ≤ d ∧ d ≤ 40) : Calls Tryz.prog 116 #[.agg #[.int .i64 a, .int .i64 b, .int .i64 c, .int .i64 d]] w fun e w' => e = .returned (.int .i64 (max (c - a) (a - c) + max (d - b) (b - d))) ∧ Below w.heap.size w w' := by
  have e1 : IntKind.i64.wrap (c - a) = c - a := by rw [IntKind.wrap_i64]; omega
  have e2 : IntKind.i64.wrap (d - b) = d - b := by rw [IntKind.wrap_i64]; omega
  have e3 : max (c - a) (-(c - a)) + max (d - b) (-(d - b)) = max (c - a) (a - c) + max (d - b) (b - d) := by omega
  have e4 : IntKind.i64.wrap (max (c - a) (-(c - a)) + max (d - b) (-(d - b))) = max (c - a) (a - c) + max (d - b) (b - d) := by rw [IntKind.wrap_i64, e3]; omega
  go_enter Tryz.func116, Tryz.ntmps116
  go_wp2_with fail
  go_region_held3 (fun w' => w.heap.size < w'.heap.size ∧ Below w.heap.size w w' ∧ w'.cell? ⟨w.heap.size, 0, none⟩ = some (.int .i64 a) ∧ w'.cell? ⟨w.heap.size, 1, none⟩ = some (.int .i64 b) ∧ w'.cell? ⟨w.heap.size, 2, none⟩ = some (.int .i64 c) ∧ w'.cell? ⟨w.heap.size, 3, none⟩ = some (.int .i64 d))
    (first | ((try dsimp only); go_split_ands; (repeat' (with_reducible refine And.intro ?_ ?_)) <;> first | ((repeat (with_reducible refine keepS ?_ (by simp; try omega) _)); (first | (with_reducible assumption) | (with_reducible exact keepC (by assumption) (by assumption)) | (with_reducible exact keepA (by assumption) _) | (with_reducible exact keepR (by assumption) (by omega) _))) | ((try simp only [World.size_alloc, World.size_setCell, World.size_drew]); omega) | (refine Mats.below hM ?_ hM.size; (repeat (first | (with_reducible exact Below.refl _ _) | (with_reducible refine Ext.drewN ?_ _) | (with_reducible refine Below.drew ?_) | (with_reducible refine Ext.alloc ?_ _) | (with_reducible refine Ext.setCell ?_ (by simp; try omega) _) | (with_reducible refine Ext.trans ?_ (by assumption)) | (with_reducible assumption) | exact Below.refl _ _)); done) | ((repeat (first | (with_reducible exact Below.refl _ _) | (with_reducible refine Ext.drewN ?_ _) | (with_reducible refine Below.drew ?_) | (with_reducible refine Ext.alloc ?_ _) | (with_reducible refine Ext.setCell ?_ (by simp; try omega) _) | (with_reducible refine Ext.trans ?_ (by assumption)) | (with_reducible assumption) | exact Below.refl _ _)); done) | (go_keep; done)))
    (first | (go_at_call 146; refine (l06Abs_any _ _ (by omega)).mono ?_; rintro e v1 ⟨rfl, hv1⟩; subst hv1))
  all_goals
    go_wp2_with fail
    go_ret
    exact ⟨ret_int (by first | rfl | exact e4 | exact e3 | (rw [IntKind.wrap_i64]; omega) | omega), by (repeat (first | (with_reducible exact Below.refl _ _) | (with_reducible refine Ext.drewN ?_ _) | (with_reducible refine Below.drew ?_) | (with_reducible refine Ext.alloc ?_ _) | (with_reducible refine Ext.setCell ?_ (by simp; try omega) _) | (with_reducible refine Ext.trans ?_ (by assumption)) | (with_reducible assumption) | exact Below.refl _ _))⟩

set_option maxHeartbeats 4000000 in
theorem specEdgeLength_any (a b c d : Int) (w : World) : Calls Tryz.prog 65 #[.agg #[.int .i64 a, .int .i64 b, .int .i64 c, .int .i64 d]] w fun e w' => e = .returned (.int .i64 (elV a b c d)) ∧ Below w.heap.size w w' := by
  have hE := fun w => eqPt2 a b c d w
  cases h1 : onB a b with
  | false =>
    rw [elV_f (by simp [elB, h1])]
    go_enter Tryz.func65, Tryz.ntmps65
    go_wp2_with fail
    go_call (l01OnChip_any a b _) as e w1 ⟨rfl, bw1⟩
    obtain ⟨sw1, zw1, cw1, fw1⟩ := bcell bw1
    try simp only [World.size_alloc, World.size_setCell, World.size_drew] at sw1
    try have lw1_w_0 : w.heap.size < w1.heap.size := by omega
    try have lw1_w_1 : w.heap.size + 1 < w1.heap.size := by omega
    try have lw1_w_2 : w.heap.size + 1 + 1 < w1.heap.size := by omega
    try have lw1_w_3 : w.heap.size + 1 + 1 + 1 < w1.heap.size := by omega
    try have lw1_w_4 : w.heap.size + 1 + 1 + 1 + 1 < w1.heap.size := by omega
    try have lw1_w_5 : w.heap.size + 1 + 1 + 1 + 1 + 1 < w1.heap.size := by omega
    try have lw1_w_6 : w.heap.size + 1 + 1 + 1 + 1 + 1 + 1 < w1.heap.size := by omega
    rw [h1]
    go_wp2_with fail
    go_ret
    exact ⟨rfl, by (repeat (first | (with_reducible exact Below.refl _ _) | (with_reducible refine Ext.drewN ?_ _) | (with_reducible refine Below.drew ?_) | (with_reducible refine Ext.alloc ?_ _) | (with_reducible refine Ext.setCell ?_ (by simp; try omega) _) | (with_reducible refine Ext.trans ?_ (by assumption)) | (with_reducible assumption) | exact Below.refl _ _))⟩
  | true =>
    cases h2 : onB c d with
    | false =>
      rw [elV_f (by simp [elB, h2])]
      go_enter Tryz.func65, Tryz.ntmps65
      go_wp2_with fail
      go_call (l01OnChip_any a b _) as e w1 ⟨rfl, bw1⟩
      obtain ⟨sw1, zw1, cw1, fw1⟩ := bcell bw1
      try simp only [World.size_alloc, World.size_setCell, World.size_drew] at sw1
      try have lw1_w_0 : w.heap.size < w1.heap.size := by omega
      try have lw1_w_1 : w.heap.size + 1 < w1.heap.size := by omega
      try have lw1_w_2 : w.heap.size + 1 + 1 < w1.heap.size := by omega
      try have lw1_w_3 : w.heap.size + 1 + 1 + 1 < w1.heap.size := by omega
      try have lw1_w_4 : w.heap.size + 1 + 1 + 1 + 1 < w1.heap.size := by omega
      try have lw1_w_5 : w.heap.size + 1 + 1 + 1 + 1 + 1 < w1.heap.size := by omega
      try have lw1_w_6 : w.heap.size + 1 + 1 + 1 + 1 + 1 + 1 < w1.heap.size := by omega
      rw [h1]
      go_wp2_with fail
      go_call (l01OnChip_any c d _) as e w2 ⟨rfl, bw2⟩
      obtain ⟨sw2, zw2, cw2, fw2⟩ := bcell bw2
      try simp only [World.size_alloc, World.size_setCell, World.size_drew] at sw2
      try have lw2_w_0 : w.heap.size < w2.heap.size := by omega
      try have lw2_w_1 : w.heap.size + 1 < w2.heap.size := by omega
      try have lw2_w_2 : w.heap.size + 1 + 1 < w2.heap.size := by omega
      try have lw2_w_3 : w.heap.size + 1 + 1 + 1 < w2.heap.size := by omega
      try have lw2_w_4 : w.heap.size + 1 + 1 + 1 + 1 < w2.heap.size := by omega
      try have lw2_w_5 : w.heap.size + 1 + 1 + 1 + 1 + 1 < w2.heap.size := by omega
      try have lw2_w_6 : w.heap.size + 1 + 1 + 1 + 1 + 1 + 1 < w2.heap.size := by omega
      try have lw2_w1_0 : w1.heap.size < w2.heap.size := by omega
      try have lw2_w1_1 : w1.heap.size + 1 < w2.heap.size := by omega
      try have lw2_w1_2 : w1.heap.size + 1 + 1 < w2.heap.size := by omega
      try have lw2_w1_3 : w1.heap.size + 1 + 1 + 1 < w2.heap.size := by omega
      try have lw2_w1_4 : w1.heap.size + 1 + 1 + 1 + 1 < w2.heap.size := by omega
      try have lw2_w1_5 : w1.heap.size + 1 + 1 + 1 + 1 + 1 < w2.heap.size := by omega
      try have lw2_w1_6 : w1.heap.size + 1 + 1 + 1 + 1 + 1 + 1 < w2.heap.size := by omega
      rw [h2]
      go_wp2_with fail
      go_ret
      exact ⟨rfl, by (repeat (first | (with_reducible exact Below.refl _ _) | (with_reducible refine Ext.drewN ?_ _) | (with_reducible refine Below.drew ?_) | (with_reducible refine Ext.alloc ?_ _) | (with_reducible refine Ext.setCell ?_ (by simp; try omega) _) | (with_reducible refine Ext.trans ?_ (by assumption)) | (with_reducible assumption) | exact Below.refl _ _))⟩
    | true =>
      obtain ⟨x1, x2⟩ := onB_t h1
      obtain ⟨y1, y2⟩ := onB_t h2
      by_cases p : a = c
      · by_cases q : b = d
        · subst p q
          rw [elV_f (by simp [elB])]
          have hE' : ∀ w, (Op.equalIn 10000 107 (.agg #[.int .i64 a, .int .i64 b]) (.agg #[.int .i64 a, .int .i64 b])).run Tryz.prog w = .ok true w := fun w => by rw [hE]; simp
          clear hE
          go_enter Tryz.func65, Tryz.ntmps65
          go_wp2_with fail
          go_call (l01OnChip_any a b _) as e w1 ⟨rfl, bw1⟩
          obtain ⟨sw1, zw1, cw1, fw1⟩ := bcell bw1
          try simp only [World.size_alloc, World.size_setCell, World.size_drew] at sw1
          try have lw1_w_0 : w.heap.size < w1.heap.size := by omega
          try have lw1_w_1 : w.heap.size + 1 < w1.heap.size := by omega
          try have lw1_w_2 : w.heap.size + 1 + 1 < w1.heap.size := by omega
          try have lw1_w_3 : w.heap.size + 1 + 1 + 1 < w1.heap.size := by omega
          try have lw1_w_4 : w.heap.size + 1 + 1 + 1 + 1 < w1.heap.size := by omega
          try have lw1_w_5 : w.heap.size + 1 + 1 + 1 + 1 + 1 < w1.heap.size := by omega
          try have lw1_w_6 : w.heap.size + 1 + 1 + 1 + 1 + 1 + 1 < w1.heap.size := by omega
          rw [h1]
          go_wp2_with fail
          go_call (l01OnChip_any a b _) as e w2 ⟨rfl, bw2⟩
          obtain ⟨sw2, zw2, cw2, fw2⟩ := bcell bw2
          try simp only [World.size_alloc, World.size_setCell, World.size_drew] at sw2
          try have lw2_w_0 : w.heap.size < w2.heap.size := by omega
          try have lw2_w_1 : w.heap.size + 1 < w2.heap.size := by omega
          try have lw2_w_2 : w.heap.size + 1 + 1 < w2.heap.size := by omega
          try have lw2_w_3 : w.heap.size + 1 + 1 + 1 < w2.heap.size := by omega
          try have lw2_w_4 : w.heap.size + 1 + 1 + 1 + 1 < w2.heap.size := by omega
          try have lw2_w_5 : w.heap.size + 1 + 1 + 1 + 1 + 1 < w2.heap.size := by omega
          try have lw2_w_6 : w.heap.size + 1 + 1 + 1 + 1 + 1 + 1 < w2.heap.size := by omega
          try have lw2_w1_0 : w1.heap.size < w2.heap.size := by omega
          try have lw2_w1_1 : w1.heap.size + 1 < w2.heap.size := by omega
          try have lw2_w1_2 : w1.heap.size + 1 + 1 < w2.heap.size := by omega
          try have lw2_w1_3 : w1.heap.size + 1 + 1 + 1 < w2.heap.size := by omega
          try have lw2_w1_4 : w1.heap.size + 1 + 1 + 1 + 1 < w2.heap.size := by omega
          try have lw2_w1_5 : w1.heap.size + 1 + 1 + 1 + 1 + 1 < w2.heap.size := by omega
          try have lw2_w1_6 : w1.heap.size + 1 + 1 + 1 + 1 + 1 + 1 < w2.heap.size := by omega
          rw [h1]
          go_wp2_with fail
          go_ret
          exact ⟨rfl, by (repeat (first | (with_reducible exact Below.refl _ _) | (with_reducible refine Ext.drewN ?_ _) | (with_reducible refine Below.drew ?_) | (with_reducible refine Ext.alloc ?_ _) | (with_reducible refine Ext.setCell ?_ (by simp; try omega) _) | (with_reducible refine Ext.trans ?_ (by assumption)) | (with_reducible assumption) | exact Below.refl _ _))⟩
        · subst p
          rw [elV_t (by simp [elB, h1, h2, q])]
          have hE' : ∀ w, (Op.equalIn 10000 107 (.agg #[.int .i64 a, .int .i64 b]) (.agg #[.int .i64 a, .int .i64 d])).run Tryz.prog w = .ok false w := fun w => by rw [hE]; simp [q]
          clear hE
          go_enter Tryz.func65, Tryz.ntmps65
          go_wp2_with fail
          go_call (l01OnChip_any a b _) as e w1 ⟨rfl, bw1⟩
          obtain ⟨sw1, zw1, cw1, fw1⟩ := bcell bw1
          try simp only [World.size_alloc, World.size_setCell, World.size_drew] at sw1
          try have lw1_w_0 : w.heap.size < w1.heap.size := by omega
          try have lw1_w_1 : w.heap.size + 1 < w1.heap.size := by omega
          try have lw1_w_2 : w.heap.size + 1 + 1 < w1.heap.size := by omega
          try have lw1_w_3 : w.heap.size + 1 + 1 + 1 < w1.heap.size := by omega
          try have lw1_w_4 : w.heap.size + 1 + 1 + 1 + 1 < w1.heap.size := by omega
          try have lw1_w_5 : w.heap.size + 1 + 1 + 1 + 1 + 1 < w1.heap.size := by omega
          try have lw1_w_6 : w.heap.size + 1 + 1 + 1 + 1 + 1 + 1 < w1.heap.size := by omega
          rw [h1]
          go_wp2_with fail
          go_call (l01OnChip_any a d _) as e w2 ⟨rfl, bw2⟩
          obtain ⟨sw2, zw2, cw2, fw2⟩ := bcell bw2
          try simp only [World.size_alloc, World.size_setCell, World.size_drew] at sw2
          try have lw2_w_0 : w.heap.size < w2.heap.size := by omega
          try have lw2_w_1 : w.heap.size + 1 < w2.heap.size := by omega
          try have lw2_w_2 : w.heap.size + 1 + 1 < w2.heap.size := by omega
          try have lw2_w_3 : w.heap.size + 1 + 1 + 1 < w2.heap.size := by omega
          try have lw2_w_4 : w.heap.size + 1 + 1 + 1 + 1 < w2.heap.size := by omega
          try have lw2_w_5 : w.heap.size + 1 + 1 + 1 + 1 + 1 < w2.heap.size := by omega
          try have lw2_w_6 : w.heap.size + 1 + 1 + 1 + 1 + 1 + 1 < w2.heap.size := by omega
          try have lw2_w1_0 : w1.heap.size < w2.heap.size := by omega
          try have lw2_w1_1 : w1.heap.size + 1 < w2.heap.size := by omega
          try have lw2_w1_2 : w1.heap.size + 1 + 1 < w2.heap.size := by omega
          try have lw2_w1_3 : w1.heap.size + 1 + 1 + 1 < w2.heap.size := by omega
          try have lw2_w1_4 : w1.heap.size + 1 + 1 + 1 + 1 < w2.heap.size := by omega
          try have lw2_w1_5 : w1.heap.size + 1 + 1 + 1 + 1 + 1 < w2.heap.size := by omega
          try have lw2_w1_6 : w1.heap.size + 1 + 1 + 1 + 1 + 1 + 1 < w2.heap.size := by omega
          rw [h2]
          go_wp2_with fail
          go_call (l06Length_any a b a d _ x1 x2 y1 y2) as e w3 ⟨rfl, bw3⟩
          obtain ⟨sw3, zw3, cw3, fw3⟩ := bcell bw3
          try simp only [World.size_alloc, World.size_setCell, World.size_drew] at sw3
          try have lw3_w_0 : w.heap.size < w3.heap.size := by omega
          try have lw3_w_1 : w.heap.size + 1 < w3.heap.size := by omega
          try have lw3_w_2 : w.heap.size + 1 + 1 < w3.heap.size := by omega
          try have lw3_w_3 : w.heap.size + 1 + 1 + 1 < w3.heap.size := by omega
          try have lw3_w_4 : w.heap.size + 1 + 1 + 1 + 1 < w3.heap.size := by omega
          try have lw3_w_5 : w.heap.size + 1 + 1 + 1 + 1 + 1 < w3.heap.size := by omega
          try have lw3_w_6 : w.heap.size + 1 + 1 + 1 + 1 + 1 + 1 < w3.heap.size := by omega
          try have lw3_w1_0 : w1.heap.size < w3.heap.size := by omega
          try have lw3_w1_1 : w1.heap.size + 1 < w3.heap.size := by omega
          try have lw3_w1_2 : w1.heap.size + 1 + 1 < w3.heap.size := by omega
          try have lw3_w1_3 : w1.heap.size + 1 + 1 + 1 < w3.heap.size := by omega
          try have lw3_w1_4 : w1.heap.size + 1 + 1 + 1 + 1 < w3.heap.size := by omega
          try have lw3_w1_5 : w1.heap.size + 1 + 1 + 1 + 1 + 1 < w3.heap.size := by omega
          try have lw3_w1_6 : w1.heap.size + 1 + 1 + 1 + 1 + 1 + 1 < w3.heap.size := by omega
          try have lw3_w2_0 : w2.heap.size < w3.heap.size := by omega
          try have lw3_w2_1 : w2.heap.size + 1 < w3.heap.size := by omega
          try have lw3_w2_2 : w2.heap.size + 1 + 1 < w3.heap.size := by omega
          try have lw3_w2_3 : w2.heap.size + 1 + 1 + 1 < w3.heap.size := by omega
          try have lw3_w2_4 : w2.heap.size + 1 + 1 + 1 + 1 < w3.heap.size := by omega
          try have lw3_w2_5 : w2.heap.size + 1 + 1 + 1 + 1 + 1 < w3.heap.size := by omega
          try have lw3_w2_6 : w2.heap.size + 1 + 1 + 1 + 1 + 1 + 1 < w3.heap.size := by omega
          go_wp2_with fail
          go_ret
          exact ⟨ret_int (by simp), by (repeat (first | (with_reducible exact Below.refl _ _) | (with_reducible refine Ext.drewN ?_ _) | (with_reducible refine Below.drew ?_) | (with_reducible refine Ext.alloc ?_ _) | (with_reducible refine Ext.setCell ?_ (by simp; try omega) _) | (with_reducible refine Ext.trans ?_ (by assumption)) | (with_reducible assumption) | exact Below.refl _ _))⟩
      · by_cases q : b = d
        · subst q
          rw [elV_t (by simp [elB, h1, h2, p])]
          have hE' : ∀ w, (Op.equalIn 10000 107 (.agg #[.int .i64 a, .int .i64 b]) (.agg #[.int .i64 c, .int .i64 b])).run Tryz.prog w = .ok false w := fun w => by rw [hE]; simp [p]
          clear hE
          go_enter Tryz.func65, Tryz.ntmps65
          go_wp2_with fail
          go_call (l01OnChip_any a b _) as e w1 ⟨rfl, bw1⟩
          obtain ⟨sw1, zw1, cw1, fw1⟩ := bcell bw1
          try simp only [World.size_alloc, World.size_setCell, World.size_drew] at sw1
          try have lw1_w_0 : w.heap.size < w1.heap.size := by omega
          try have lw1_w_1 : w.heap.size + 1 < w1.heap.size := by omega
          try have lw1_w_2 : w.heap.size + 1 + 1 < w1.heap.size := by omega
          try have lw1_w_3 : w.heap.size + 1 + 1 + 1 < w1.heap.size := by omega
          try have lw1_w_4 : w.heap.size + 1 + 1 + 1 + 1 < w1.heap.size := by omega
          try have lw1_w_5 : w.heap.size + 1 + 1 + 1 + 1 + 1 < w1.heap.size := by omega
          try have lw1_w_6 : w.heap.size + 1 + 1 + 1 + 1 + 1 + 1 < w1.heap.size := by omega
          rw [h1]
          go_wp2_with fail
          go_call (l01OnChip_any c b _) as e w2 ⟨rfl, bw2⟩
          obtain ⟨sw2, zw2, cw2, fw2⟩ := bcell bw2
          try simp only [World.size_alloc, World.size_setCell, World.size_drew] at sw2
          try have lw2_w_0 : w.heap.size < w2.heap.size := by omega
          try have lw2_w_1 : w.heap.size + 1 < w2.heap.size := by omega
          try have lw2_w_2 : w.heap.size + 1 + 1 < w2.heap.size := by omega
          try have lw2_w_3 : w.heap.size + 1 + 1 + 1 < w2.heap.size := by omega
          try have lw2_w_4 : w.heap.size + 1 + 1 + 1 + 1 < w2.heap.size := by omega
          try have lw2_w_5 : w.heap.size + 1 + 1 + 1 + 1 + 1 < w2.heap.size := by omega
          try have lw2_w_6 : w.heap.size + 1 + 1 + 1 + 1 + 1 + 1 < w2.heap.size := by omega
          try have lw2_w1_0 : w1.heap.size < w2.heap.size := by omega
          try have lw2_w1_1 : w1.heap.size + 1 < w2.heap.size := by omega
          try have lw2_w1_2 : w1.heap.size + 1 + 1 < w2.heap.size := by omega
          try have lw2_w1_3 : w1.heap.size + 1 + 1 + 1 < w2.heap.size := by omega
          try have lw2_w1_4 : w1.heap.size + 1 + 1 + 1 + 1 < w2.heap.size := by omega
          try have lw2_w1_5 : w1.heap.size + 1 + 1 + 1 + 1 + 1 < w2.heap.size := by omega
          try have lw2_w1_6 : w1.heap.size + 1 + 1 + 1 + 1 + 1 + 1 < w2.heap.size := by omega
          rw [h2]
          go_wp2_with fail
          go_call (l06Length_any a b c b _ x1 x2 y1 y2) as e w3 ⟨rfl, bw3⟩
          obtain ⟨sw3, zw3, cw3, fw3⟩ := bcell bw3
          try simp only [World.size_alloc, World.size_setCell, World.size_drew] at sw3
          try have lw3_w_0 : w.heap.size < w3.heap.size := by omega
          try have lw3_w_1 : w.heap.size + 1 < w3.heap.size := by omega
          try have lw3_w_2 : w.heap.size + 1 + 1 < w3.heap.size := by omega
          try have lw3_w_3 : w.heap.size + 1 + 1 + 1 < w3.heap.size := by omega
          try have lw3_w_4 : w.heap.size + 1 + 1 + 1 + 1 < w3.heap.size := by omega
          try have lw3_w_5 : w.heap.size + 1 + 1 + 1 + 1 + 1 < w3.heap.size := by omega
          try have lw3_w_6 : w.heap.size + 1 + 1 + 1 + 1 + 1 + 1 < w3.heap.size := by omega
          try have lw3_w1_0 : w1.heap.size < w3.heap.size := by omega
          try have lw3_w1_1 : w1.heap.size + 1 < w3.heap.size := by omega
          try have lw3_w1_2 : w1.heap.size + 1 + 1 < w3.heap.size := by omega
          try have lw3_w1_3 : w1.heap.size + 1 + 1 + 1 < w3.heap.size := by omega
          try have lw3_w1_4 : w1.heap.size + 1 + 1 + 1 + 1 < w3.heap.size := by omega
          try have lw3_w1_5 : w1.heap.size + 1 + 1 + 1 + 1 + 1 < w3.heap.size := by omega
          try have lw3_w1_6 : w1.heap.size + 1 + 1 + 1 + 1 + 1 + 1 < w3.heap.size := by omega
          try have lw3_w2_0 : w2.heap.size < w3.heap.size := by omega
          try have lw3_w2_1 : w2.heap.size + 1 < w3.heap.size := by omega
          try have lw3_w2_2 : w2.heap.size + 1 + 1 < w3.heap.size := by omega
          try have lw3_w2_3 : w2.heap.size + 1 + 1 + 1 < w3.heap.size := by omega
          try have lw3_w2_4 : w2.heap.size + 1 + 1 + 1 + 1 < w3.heap.size := by omega
          try have lw3_w2_5 : w2.heap.size + 1 + 1 + 1 + 1 + 1 < w3.heap.size := by omega
          try have lw3_w2_6 : w2.heap.size + 1 + 1 + 1 + 1 + 1 + 1 < w3.heap.size := by omega
          go_wp2_with fail
          go_ret
          exact ⟨ret_int (by simp), by (repeat (first | (with_reducible exact Below.refl _ _) | (with_reducible refine Ext.drewN ?_ _) | (with_reducible refine Below.drew ?_) | (with_reducible refine Ext.alloc ?_ _) | (with_reducible refine Ext.setCell ?_ (by simp; try omega) _) | (with_reducible refine Ext.trans ?_ (by assumption)) | (with_reducible assumption) | exact Below.refl _ _))⟩
        · rw [elV_f (by simp [elB, p, q])]
          have p1 : (a != c) = true := by simp [p]
          have q1 : (b != d) = true := by simp [q]
          have hE' : ∀ w, (Op.equalIn 10000 107 (.agg #[.int .i64 a, .int .i64 b]) (.agg #[.int .i64 c, .int .i64 d])).run Tryz.prog w = .ok false w := fun w => by rw [hE]; simp [p]
          clear hE
          go_enter Tryz.func65, Tryz.ntmps65
          go_wp2_with fail
          go_call (l01OnChip_any a b _) as e w1 ⟨rfl, bw1⟩
          obtain ⟨sw1, zw1, cw1, fw1⟩ := bcell bw1
          try simp only [World.size_alloc, World.size_setCell, World.size_drew] at sw1
          try have lw1_w_0 : w.heap.size < w1.heap.size := by omega
          try have lw1_w_1 : w.heap.size + 1 < w1.heap.size := by omega
          try have lw1_w_2 : w.heap.size + 1 + 1 < w1.heap.size := by omega
          try have lw1_w_3 : w.heap.size + 1 + 1 + 1 < w1.heap.size := by omega
          try have lw1_w_4 : w.heap.size + 1 + 1 + 1 + 1 < w1.heap.size := by omega
          try have lw1_w_5 : w.heap.size + 1 + 1 + 1 + 1 + 1 < w1.heap.size := by omega
          try have lw1_w_6 : w.heap.size + 1 + 1 + 1 + 1 + 1 + 1 < w1.heap.size := by omega
          rw [h1]
          go_wp2_with fail
          go_call (l01OnChip_any c d _) as e w2 ⟨rfl, bw2⟩
          obtain ⟨sw2, zw2, cw2, fw2⟩ := bcell bw2
          try simp only [World.size_alloc, World.size_setCell, World.size_drew] at sw2
          try have lw2_w_0 : w.heap.size < w2.heap.size := by omega
          try have lw2_w_1 : w.heap.size + 1 < w2.heap.size := by omega
          try have lw2_w_2 : w.heap.size + 1 + 1 < w2.heap.size := by omega
          try have lw2_w_3 : w.heap.size + 1 + 1 + 1 < w2.heap.size := by omega
          try have lw2_w_4 : w.heap.size + 1 + 1 + 1 + 1 < w2.heap.size := by omega
          try have lw2_w_5 : w.heap.size + 1 + 1 + 1 + 1 + 1 < w2.heap.size := by omega
          try have lw2_w_6 : w.heap.size + 1 + 1 + 1 + 1 + 1 + 1 < w2.heap.size := by omega
          try have lw2_w1_0 : w1.heap.size < w2.heap.size := by omega
          try have lw2_w1_1 : w1.heap.size + 1 < w2.heap.size := by omega
          try have lw2_w1_2 : w1.heap.size + 1 + 1 < w2.heap.size := by omega
          try have lw2_w1_3 : w1.heap.size + 1 + 1 + 1 < w2.heap.size := by omega
          try have lw2_w1_4 : w1.heap.size + 1 + 1 + 1 + 1 < w2.heap.size := by omega
          try have lw2_w1_5 : w1.heap.size + 1 + 1 + 1 + 1 + 1 < w2.heap.size := by omega
          try have lw2_w1_6 : w1.heap.size + 1 + 1 + 1 + 1 + 1 + 1 < w2.heap.size := by omega
          rw [h2]
          go_wp2_with fail
          go_ret
          exact ⟨rfl, by (repeat (first | (with_reducible exact Below.refl _ _) | (with_reducible refine Ext.drewN ?_ _) | (with_reducible refine Below.drew ?_) | (with_reducible refine Ext.alloc ?_ _) | (with_reducible refine Ext.setCell ?_ (by simp; try omega) _) | (with_reducible refine Ext.trans ?_ (by assumption)) | (with_reducible assumption) | exact Below.refl _ _))⟩

theorem toEdge_any (a b c d : Int) (w : World) : Calls Tryz.prog 69 #[.agg #[.int .i64 a, .int .i64 b, .int .i64 c, .int .i64 d]] w fun e w' => e = .returned (.agg #[.int .i64 a, .int .i64 b, .int .i64 c, .int .i64 d]) ∧ Below w.heap.size w w' := by
  go_enter Tryz.func69, Tryz.ntmps69
  go_wp2_with fail
  first | go_ret | (refine bodyPost_ret (v := .agg #[.int .i64 a, .int .i64 b, .int .i64 c, .int .i64 d]) (by simp [*, results, Tryz.results69, go_sem]) rfl ?_)
  exact ⟨rfl, by (repeat (first | (with_reducible exact Below.refl _ _) | (with_reducible refine Ext.drewN ?_ _) | (with_reducible refine Below.drew ?_) | (with_reducible refine Ext.alloc ?_ _) | (with_reducible refine Ext.setCell ?_ (by simp; try omega) _) | (with_reducible refine Ext.trans ?_ (by assumption)) | (with_reducible assumption) | exact Below.refl _ _))⟩

end Go.Proofs.YtfbalpkjcfdakaaGreatDoor
