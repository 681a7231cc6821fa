/- The edges of a set and of its mirror image. No program's run in it. -/
import Derived.Test.YtmabdemdapnmkaaGreatDoorEgS
import Derived.Test.YtmabdemdapnmkaaGreatDoorQS
namespace Go.Proofs.YtmabdemdapnmkaaGreatDoor
open Go.RowKit
set_option linter.unusedVariables false
set_option linter.unusedSimpArgs false

/-- The mirror image's flags. -/
def trF (P Q R S : Nat → Int) (n : Nat) : Nat → Bool := imF 5 0 0 P Q R S n
theorem im5 {a b c d : Int} (h : rvB a b c d = true) : mr0 5 0 0 a b c d = b ∧ mr1 5 0 0 a b c d = a ∧ mr2 5 0 0 a b c d = d ∧ mr3 5 0 0 a b c d = c := by
  have h1 := rvB_t h
  simp only [mr0, mr1, mr2, mr3, mvX, mvY, tX, tY, lo2, hi2]
  simp only [show ¬ ((5 : Int) = 0) by decide, show ¬ ((5 : Int) = 1) by decide, show ¬ ((5 : Int) = 2) by decide, show ¬ ((5 : Int) = 3) by decide, show ¬ ((5 : Int) = 4) by decide, if_false, if_true]
  refine ⟨?_, ?_, ?_, ?_⟩ <;> (split <;> omega)
theorem im5_valid {P Q R S : Nat → Int} {n : Nat} (hok : okR P Q R S n = true) : imV 5 0 0 P Q R S n = true := by
  unfold imV allV
  rw [List.all_eq_true]
  intro i hi
  rw [List.mem_range] at hi
  have h := okR_all hok i hi
  obtain ⟨e0, e1, e2, e3⟩ := im5 h
  have h1 := rvB_t h
  unfold imA imB imC imD
  rw [e0, e1, e2, e3]
  exact rvB_mk (by omega)
theorem mg5 {P Q R S : Nat → Int} {n : Nat} (hok : okR P Q R S n = true) : mgB 5 0 0 P Q R S n = true ∧ mgL 5 0 0 P Q R S n = canonL (trF P Q R S n) := by
  have h := mgL_of (o := 5) (x := 0) (y := 0) (b := true) (by decide) hok (im5_valid hok)
  exact ⟨h.1, h.2.trans (if_pos rfl)⟩
theorem trF_has {P Q R S : Nat → Int} {n : Nat} (hok : okR P Q R S n = true) (x y : Int) : hasB (trF P Q R S n) x y = hasB (covF P Q R S n) y x := by
  by_cases h : (-40 ≤ x ∧ x ≤ 39) ∧ (-40 ≤ y ∧ y ≤ 39)
  · rw [hasB_in h, hasB_in ⟨h.2, h.1⟩]
    unfold trF imF
    rw [covF_at _ _ _ _ _ h.1.1 h.1.2 h.2.1 h.2.2, covF_at _ _ _ _ _ h.2.1 h.2.2 h.1.1 h.1.2, Bool.eq_iff_iff, covB_t, covB_t]
    constructor
    · rintro ⟨i, hi, h1⟩
      obtain ⟨e0, e1, e2, e3⟩ := im5 (okR_all hok i hi)
      unfold imA imB imC imD at h1
      rw [e0, e1, e2, e3] at h1
      exact ⟨i, hi, h1.2.2.1, h1.2.2.2, h1.1, h1.2.1⟩
    · rintro ⟨i, hi, h1⟩
      obtain ⟨e0, e1, e2, e3⟩ := im5 (okR_all hok i hi)
      refine ⟨i, hi, ?_⟩
      unfold imA imB imC imD
      rw [e0, e1, e2, e3]
      exact ⟨h1.2.2.1, h1.2.2.2, h1.1, h1.2.1⟩
  · rw [hasB_out h, hasB_out fun h' => h ⟨h'.2, h'.1⟩]
/-- The flags that the mirror image's rectangles cover. -/
def trC (P Q R S : Nat → Int) (n : Nat) : Nat → Bool := covF (pA (mgL 5 0 0 P Q R S n)) (pB (mgL 5 0 0 P Q R S n)) (pC (mgL 5 0 0 P Q R S n)) (pD (mgL 5 0 0 P Q R S n)) (mgL 5 0 0 P Q R S n).length
theorem trC_ok {P Q R S : Nat → Int} {n : Nat} (hok : okR P Q R S n = true) : okR (pA (mgL 5 0 0 P Q R S n)) (pB (mgL 5 0 0 P Q R S n)) (pC (mgL 5 0 0 P Q R S n)) (pD (mgL 5 0 0 P Q R S n)) (mgL 5 0 0 P Q R S n).length = true := by
  rw [(mg5 hok).2]
  exact okR_canonL _
theorem trC_has {P Q R S : Nat → Int} {n : Nat} (hok : okR P Q R S n = true) (x y : Int) : hasB (trC P Q R S n) x y = hasB (covF P Q R S n) y x := by
  rw [← trF_has hok]
  unfold trC
  rw [(mg5 hok).2]
  exact hasB_congr (fun k hk => cov_canonL_all _ hk) x y
theorem trC_gS {P Q R S : Nat → Int} {n : Nat} (hok : okR P Q R S n = true) : gS (trC P Q R S n) 2 = gS (covF P Q R S n) 1 ∧ gS (trC P Q R S n) 3 = gS (covF P Q R S n) 0 := by
  constructor <;> (funext c t; simp only [gS, trC_has hok])
/-- The mirror image of an edge. -/
def mirE (e : R4) : R4 := ⟨e.d, e.c, e.b, e.a⟩
theorem mirE_inj {e g : R4} (h : mirE e = mirE g) : e = g := by
  cases e; cases g
  simp only [mirE, R4.mk.injEq] at h
  obtain ⟨h1, h2, h3, h4⟩ := h
  subst h1 h2 h3 h4
  rfl
theorem mirE_2 (c lo hi : Int) : mirE (mkE 2 c lo hi) = mkE 1 c lo hi := rfl
theorem mirE_3 (c lo hi : Int) : mirE (mkE 3 c lo hi) = mkE 0 c lo hi := rfl
/-- Upright edges, and the mirror images of the mirror image's. -/
theorem edges_both {P Q R S : Nat → Int} {n : Nat} (hok : okR P Q R S n = true) {L L' : List R4} (h1 : L.Nodup) (h2 : ∀ g, g ∈ L ↔ VertE (covF P Q R S n) g) (k1 : L'.Nodup) (k2 : ∀ g, g ∈ L' ↔ VertE (trC P Q R S n) g) :
    (L ++ L'.map mirE).Nodup ∧ ∀ g, g ∈ L ++ L'.map mirE ↔ IsEdge (covF P Q R S n) g := by
  obtain ⟨g2, g3⟩ := trC_gS hok
  have hm : ∀ g, g ∈ L'.map mirE ↔ ∃ (o : Nat) (c lo hi : Int), (o = 0 ∨ o = 1) ∧ MaxI (gS (covF P Q R S n) o c) lo hi ∧ g = mkE o c lo hi := fun g => by
    rw [List.mem_map]
    constructor
    · rintro ⟨e, he, rfl⟩
      obtain ⟨o, c, lo, hi, ho, hmx, rfl⟩ := (k2 e).1 he
      rcases ho with rfl | rfl
      · rw [g2] at hmx
        exact ⟨1, c, lo, hi, .inr rfl, hmx, rfl⟩
      · rw [g3] at hmx
        exact ⟨0, c, lo, hi, .inl rfl, hmx, rfl⟩
    · rintro ⟨o, c, lo, hi, ho, hmx, rfl⟩
      rcases ho with rfl | rfl
      · rw [← g3] at hmx
        exact ⟨mkE 3 c lo hi, (k2 _).2 ⟨3, c, lo, hi, .inr rfl, hmx, rfl⟩, rfl⟩
      · rw [← g2] at hmx
        exact ⟨mkE 2 c lo hi, (k2 _).2 ⟨2, c, lo, hi, .inl rfl, hmx, rfl⟩, rfl⟩
  constructor
  · rw [List.nodup_append]
    refine ⟨h1, ?_, fun a ha b hb e => ?_⟩
    · rw [List.Nodup, List.pairwise_map]
      exact k1.imp fun {a b} hne he => hne (mirE_inj he)
    · subst e
      obtain ⟨o, c, lo, hi, ho, hmx, e1⟩ := (h2 a).1 ha
      obtain ⟨o', c', lo', hi', ho', hmx', e2⟩ := (hm a).1 hb
      have := (mkE_inj (by omega) (by omega) hmx.1 hmx'.1 (e1.symm.trans e2)).1
      omega
  · intro g
    rw [List.mem_append, h2, hm]
    constructor
    · rintro (⟨o, c, lo, hi, ho, hmx, e⟩ | ⟨o, c, lo, hi, ho, hmx, e⟩)
      · exact ⟨o, c, lo, hi, by omega, hmx, e⟩
      · exact ⟨o, c, lo, hi, by omega, hmx, e⟩
    · rintro ⟨o, c, lo, hi, ho, hmx, e⟩
      rcases o4 ho with h | h | h | h
      · exact .inr ⟨o, c, lo, hi, .inl h, hmx, e⟩
      · exact .inr ⟨o, c, lo, hi, .inr h, hmx, e⟩
      · exact .inl ⟨o, c, lo, hi, .inl h, hmx, e⟩
      · exact .inl ⟨o, c, lo, hi, .inr h, hmx, e⟩
end Go.Proofs.YtmabdemdapnmkaaGreatDoor
