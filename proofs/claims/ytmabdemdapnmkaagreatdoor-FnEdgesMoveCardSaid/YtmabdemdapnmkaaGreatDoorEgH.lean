/- The upright sides of a set as they come row by row, and the edges that they make. No program's run in it. -/
import Derived.Test.YtmabdemdapnmkaaGreatDoorEgA
import Derived.Test.YtmabdemdapnmkaaGreatDoorQI
namespace Go.Proofs.YtmabdemdapnmkaaGreatDoor
open Go.RowKit
set_option linter.unusedVariables false
set_option linter.unusedSimpArgs false

theorem run_len (f : Nat → Bool) (y : Int) : ∀ k : Nat, (runsTo f y k).length % 2 = if hasB f (-40 + (k : Int) - 1) y = true then 1 else 0
  | 0 => by rw [hasB_out (by omega)]; rfl
  | k + 1 => by
    have ih := run_len f y k
    have e : -40 + ((k + 1 : Nat) : Int) - 1 = -40 + (k : Int) := by omega
    rw [e]
    cases hc : chg f (-40 + (k : Int)) y with
    | true =>
      rw [runsTo_yes hc, List.length_append]
      unfold chg at hc
      cases h1 : hasB f (-40 + (k : Int)) y <;> cases h2 : hasB f (-40 + (k : Int) - 1) y <;> rw [h1, h2] at hc <;> (try (cases hc; done)) <;> rw [h2] at ih <;> simp at ih ⊢ <;> omega
    | false =>
      rw [runsTo_no hc]
      unfold chg at hc
      cases h1 : hasB f (-40 + (k : Int)) y <;> cases h2 : hasB f (-40 + (k : Int) - 1) y <;> rw [h1, h2] at hc <;> (try (cases hc; done)) <;> rw [h2] at ih <;> simp at ih ⊢ <;> omega
theorem run_at (f : Nat → Bool) (y : Int) : ∀ (n i : Nat) (x : Int), (runsTo f y n)[i]? = some x → ∃ k : Nat, k < n ∧ x = -40 + (k : Int) ∧ chg f x y = true ∧ (runsTo f y k).length = i
  | 0, i, x, h => by simp [runsTo] at h
  | n + 1, i, x, h => by
    cases hc : chg f (-40 + (n : Int)) y with
    | true =>
      rw [runsTo_yes hc] at h
      by_cases hi : i < (runsTo f y n).length
      · rw [List.getElem?_append_left hi] at h
        obtain ⟨k, h1, h2⟩ := run_at f y n i x h
        exact ⟨k, by omega, h2⟩
      · rw [List.getElem?_append_right (by omega)] at h
        have hi2 : i - (runsTo f y n).length = 0 := by
          have := (List.getElem?_eq_some_iff.1 h).1
          simp at this
          omega
        rw [hi2] at h
        simp at h
        subst h
        exact ⟨n, by omega, rfl, hc, by omega⟩
    | false =>
      rw [runsTo_no hc] at h
      obtain ⟨k, h1, h2⟩ := run_at f y n i x h
      exact ⟨k, by omega, h2⟩
theorem run_in (f : Nat → Bool) (y : Int) : ∀ (n k : Nat), k < n → chg f (-40 + (k : Int)) y = true → (-40 + (k : Int)) ∈ runsTo f y n
  | 0, k, h, _ => by omega
  | n + 1, k, h, hc => by
    by_cases e : k = n
    · subst e
      rw [runsTo_yes hc]
      simp
    · have := run_in f y n k (by omega) hc
      rw [runsTo]
      split
      · simp [this]
      · exact this
/-- The direction of a run's end, by its place in the row. -/
def oI (i : Nat) : Nat := if i % 2 = 0 then 3 else 2
theorem oI_or (i : Nat) : oI i = 2 ∨ oI i = 3 := by unfold oI; split <;> simp
theorem gS23 (f : Nat → Bool) (x y : Int) : gS f 2 x y = true → gS f 3 x y = false := by
  simp only [gS]
  cases hasB f x y <;> cases hasB f (x - 1) y <;> simp
theorem gS_chg (f : Nat → Bool) (x y : Int) : (gS f 2 x y || gS f 3 x y) = chg f x y := by
  simp only [gS, chg]
  cases hasB f x y <;> cases hasB f (x - 1) y <;> rfl
theorem run_dir {f : Nat → Bool} {y x : Int} {i : Nat} (h : (runsL f y)[i]? = some x) : (-40 ≤ x ∧ x ≤ 40) ∧ gS f (oI i) x y = true := by
  obtain ⟨k, h1, h2, h3, h4⟩ := run_at f y 81 i x h
  have hl := run_len f y k
  rw [h4, ← h2] at hl
  refine ⟨by omega, ?_⟩
  unfold oI
  unfold chg at h3
  by_cases e : i % 2 = 0
  · rw [if_pos e]
    have h5 : hasB f (x - 1) y = false := by
      cases h6 : hasB f (x - 1) y with
      | false => rfl
      | true => rw [h6, if_pos rfl] at hl; omega
    rw [h5] at h3
    simp only [gS, h5]
    simpa using h3
  · rw [if_neg e]
    have h5 : hasB f (x - 1) y = true := by
      cases h6 : hasB f (x - 1) y with
      | true => rfl
      | false => rw [h6] at hl; simp at hl; omega
    rw [h5] at h3
    simp only [gS, h5]
    simpa using h3
theorem run_all {f : Nat → Bool} {o : Nat} {x y : Int} (ho : o = 2 ∨ o = 3) (h : gS f o x y = true) : x ∈ runsL f y := by
  have hb := gS_t h
  have hc : chg f x y = true := by
    rw [← gS_chg]
    rcases ho with rfl | rfl <;> simp [h]
  have := run_in f y 81 (x + 40).toNat (by omega) (by rw [show -40 + (((x + 40).toNat : Nat) : Int) = x by omega]; exact hc)
  rwa [show -40 + (((x + 40).toNat : Nat) : Int) = x by omega] at this
theorem incL_nodup : ∀ {l : List Int}, incL l → l.Nodup
  | [], _ => .nil
  | a :: l, h => List.nodup_cons.2 ⟨fun ha => by have := h.1 a ha; omega, incL_nodup h.2⟩
theorem runsL_nodup (f : Nat → Bool) (y : Int) : (runsL f y).Nodup := incL_nodup (runsTo_inc f y 81)

/-- Has a side come, when the first i ends of row y have? -/
def dn (f : Nat → Bool) (y : Int) (i : Nat) (o : Nat) (c t : Int) : Bool := gS f o c t && (decide (t < y) || (decide (t = y) && decide (c ∈ (runsL f y).take i)))
theorem dn_t {f : Nat → Bool} {y : Int} {i o : Nat} {c t : Int} (h : dn f y i o c t = true) : gS f o c t = true ∧ t ≤ y := by
  simp only [dn, Bool.and_eq_true, Bool.or_eq_true, decide_eq_true_eq] at h
  exact ⟨h.1, by omega⟩
theorem dn_step {f : Nat → Bool} {y x : Int} {i : Nat} (h : (runsL f y)[i]? = some x) {o : Nat} (ho : o = 2 ∨ o = 3) (c t : Int) : dn f y (i + 1) o c t = (dn f y i o c t || (decide (o = oI i) && (decide (c = x) && decide (t = y)))) := by
  have hd := (run_dir h).2
  have htk : (runsL f y).take (i + 1) = (runsL f y).take i ++ [x] := by
    rw [List.take_add_one, h]
    rfl
  unfold dn
  rw [htk, Bool.eq_iff_iff]
  simp only [Bool.and_eq_true, Bool.or_eq_true, decide_eq_true_eq, List.mem_append, List.mem_singleton]
  constructor
  · rintro ⟨h1, h2 | ⟨h2, h3 | h3⟩⟩
    · exact .inl ⟨h1, .inl h2⟩
    · exact .inl ⟨h1, .inr ⟨h2, h3⟩⟩
    · subst h2 h3
      refine .inr ⟨?_, rfl, rfl⟩
      rcases ho with rfl | rfl <;> rcases oI_or i with e | e <;> rw [e] at hd ⊢
      · have := gS23 f c t h1; rw [this] at hd; cases hd
      · have := gS23 f c t hd; rw [this] at h1; cases h1
  · rintro (⟨h1, h2 | ⟨h2, h3⟩⟩ | ⟨h1, h2, h3⟩)
    · exact ⟨h1, .inl h2⟩
    · exact ⟨h1, .inr ⟨h2, .inl h3⟩⟩
    · subst h1 h2 h3
      exact ⟨hd, .inr ⟨rfl, .inr rfl⟩⟩
theorem dn_new {f : Nat → Bool} {y x : Int} {i : Nat} (h : (runsL f y)[i]? = some x) (o : Nat) : dn f y i o x y = false := by
  have hn := runsL_nodup f y
  have hx : x ∉ (runsL f y).take i := by
    intro hm
    obtain ⟨j, hj⟩ := List.getElem?_of_mem hm
    have hji : j < i := by
      have := (List.getElem?_eq_some_iff.1 hj).1
      rw [List.length_take] at this
      omega
    rw [List.getElem?_take_of_lt hji] at hj
    obtain ⟨l1, e1⟩ := List.getElem?_eq_some_iff.1 hj
    obtain ⟨l2, e2⟩ := List.getElem?_eq_some_iff.1 h
    exact List.pairwise_iff_getElem.1 hn j i l1 l2 hji (e1.trans e2.symm)
  simp [dn, hx]
theorem dn_up (f : Nat → Bool) (y : Int) (i o : Nat) (x : Int) : dn f y i o x (y + 1) = false := by
  unfold dn
  rw [decide_eq_false (by omega), decide_eq_false (by omega)]
  simp

/-- The blocks of the sides that have come, and the edges in them. -/
structure UpI (d : Nat → Int → Int → Bool) (M : Int → Int → Option Nat) (Ed : Nat → R4) : Prop where
  dom : ∀ c t, (M c t).isSome = (d 2 c t || d 3 c t)
  edge : ∀ c t b, M c t = some b → ∃ o lo hi, (o = 2 ∨ o = 3) ∧ MaxI (d o c) lo hi ∧ lo ≤ t ∧ t < hi ∧ Ed b = mkE o c lo hi
  one : ∀ c t c' t' b b', M c t = some b → M c' t' = some b' → Ed b = Ed b' → b = b'
def pM (M : Int → Int → Option Nat) (x y : Int) (b : Nat) : Int → Int → Option Nat := fun x' y' => if x' = x ∧ y' = y then some b else M x' y'
def setEd (Ed : Nat → R4) (b : Nat) (e : R4) : Nat → R4 := fun k => if k = b then e else Ed k
theorem setEd_same (Ed : Nat → R4) (b : Nat) (e : R4) : setEd Ed b e b = e := if_pos rfl
theorem setEd_other {Ed : Nat → R4} {b k : Nat} (e : R4) (h : k ≠ b) : setEd Ed b e k = Ed k := if_neg h

theorem o23 {o : Nat} (h : o = 2 ∨ o = 3) : o < 4 := by omega
theorem UpI.start (d : Nat → Int → Int → Bool) (h : ∀ o c t, o = 2 ∨ o = 3 → d o c t = false) (Ed : Nat → R4) : UpI d (fun _ _ => none) Ed :=
  ⟨fun c t => by rw [h 2 c t (.inl rfl), h 3 c t (.inr rfl)]; rfl, fun c t b e => (by cases e), fun c t c' t' b b' e => (by cases e)⟩
theorem UpI.congr {d d' : Nat → Int → Int → Bool} {M : Int → Int → Option Nat} {Ed : Nat → R4} (h : UpI d M Ed) (hd : ∀ o c t, o = 2 ∨ o = 3 → d' o c t = d o c t) : UpI d' M Ed where
  dom c t := by rw [h.dom, hd 2 c t (.inl rfl), hd 3 c t (.inr rfl)]
  edge c t b hb := by
    obtain ⟨o, lo, hi, ho, hm, r⟩ := h.edge c t b hb
    exact ⟨o, lo, hi, ho, by rwa [show d' o c = d o c from funext fun s => hd o c s ho], r⟩
  one := h.one

/-- A side that continues an edge. -/
theorem UpI.join {d d' : Nat → Int → Int → Bool} {M : Int → Int → Option Nat} {Ed : Nat → R4} {o : Nat} {x y lo : Int} {b : Nat} (h : UpI d M Ed) (ho : o = 2 ∨ o = 3)
    (hd : ∀ o' c t, o' = 2 ∨ o' = 3 → d' o' c t = (d o' c t || (decide (o' = o) && (decide (c = x) && decide (t = y)))))
    (hup : ∀ o', o' = 2 ∨ o' = 3 → d o' x (y + 1) = false) (hb : M x (y - 1) = some b) (hE : Ed b = mkE o x lo y) (hlo : lo < y) :
    UpI d' (pM M x y b) (setEd Ed b (mkE o x lo (y + 1))) := by
  obtain ⟨o1, lo1, hi1, ho1, hm1, t1, t2, e1⟩ := h.edge _ _ _ hb
  obtain ⟨rfl, -, rfl, rfl⟩ := mkE_inj (o23 ho) (o23 ho1) hlo hm1.1 (hE.symm.trans e1)
  have hoth : ∀ {o' c t}, (o' = 2 ∨ o' = 3) → ¬ (o' = o ∧ c = x ∧ t = y) → d' o' c t = d o' c t := fun {o' c t} h1 h2 => by
    rw [hd _ _ _ h1]
    cases hx : (decide (o' = o) && (decide (c = x) && decide (t = y))) with
    | false => simp
    | true =>
      simp only [Bool.and_eq_true, decide_eq_true_eq] at hx
      exact absurd hx h2
  have hself : d' o x y = true := by rw [hd _ _ _ ho]; simp
  have hnew : MaxI (d' o x) lo (y + 1) := by
    refine ⟨by omega, fun s s1 s2 => ?_, ?_, ?_⟩
    · by_cases e : s = y
      · rw [e]; exact hself
      · rw [hoth ho (by omega)]; exact hm1.2.1 s s1 (by omega)
    · rw [hoth ho (by omega)]; exact hm1.2.2.1
    · rw [hoth ho (by omega)]; exact hup o ho
  -- an entry in block b lies on this edge; one in another block on another edge
  have key : ∀ c t k, M c t = some k → ∃ o' lo' hi', (o' = 2 ∨ o' = 3) ∧ MaxI (d' o' c) lo' hi' ∧ lo' ≤ t ∧ t < hi' ∧ setEd Ed b (mkE o x lo (y + 1)) k = mkE o' c lo' hi' := by
    intro c t k hk
    obtain ⟨o2, lo2, hi2, ho2, hm2, u1, u2, e2⟩ := h.edge c t k hk
    by_cases hkb : k = b
    · subst hkb
      obtain ⟨rfl, rfl, rfl, rfl⟩ := mkE_inj (o23 ho) (o23 ho2) hlo hm2.1 (hE.symm.trans e2)
      exact ⟨o, lo, y + 1, ho, hnew, u1, by omega, setEd_same _ _ _⟩
    · refine ⟨o2, lo2, hi2, ho2, ?_, u1, u2, by rw [setEd_other _ hkb]; exact e2⟩
      by_cases hoc : o2 = o ∧ c = x
      · obtain ⟨rfl, rfl⟩ := hoc
        have hne : ¬ (lo2 ≤ y ∧ y ≤ hi2) := by
          rintro ⟨w1, w2⟩
          by_cases hy : y = hi2
          · have hl : lo2 ≤ y - 1 := by have := hm2.1; omega
            obtain ⟨rfl, -⟩ := hm1.eq hm2 (t := y - 1) (by omega) (by omega) hl (by omega)
            refine hkb (h.one c t c (y - 1) k b hk hb ?_)
            rw [e2, hE, hy]
          · have := hm2.2.1 y w1 (by omega)
            rw [hm1.2.2.2] at this
            cases this
        have hlo2 : lo2 - 1 ≠ y := by
          intro e
          have := hm2.2.1 (y + 1) (by omega) (by have := hm2.1; omega)
          rw [hup o2 ho2] at this
          cases this
        refine ⟨hm2.1, fun s s1 s2 => ?_, ?_, ?_⟩
        · rw [hoth ho2 (by omega)]; exact hm2.2.1 s s1 s2
        · rw [hoth ho2 (by omega)]; exact hm2.2.2.1
        · rw [hoth ho2 (by have := hm2.1; omega)]; exact hm2.2.2.2
      · rw [show d' o2 c = d o2 c from funext fun s => hoth ho2 (fun e => hoc ⟨e.1, e.2.1⟩)]
        exact hm2
  refine ⟨fun c t => ?_, fun c t k hk => ?_, fun c t c' t' k k' hk hk' he => ?_⟩
  · unfold pM
    by_cases e : c = x ∧ t = y
    · obtain ⟨rfl, rfl⟩ := e
      rw [if_pos ⟨rfl, rfl⟩]
      rcases ho with rfl | rfl <;> simp [hself]
    · rw [if_neg e, h.dom, hoth (.inl rfl) (fun w => e ⟨w.2.1, w.2.2⟩), hoth (.inr rfl) (fun w => e ⟨w.2.1, w.2.2⟩)]
  · unfold pM at hk
    by_cases e : c = x ∧ t = y
    · rw [if_pos e] at hk
      cases hk
      rw [e.1, e.2]
      exact ⟨o, lo, y + 1, ho, hnew, by omega, by omega, setEd_same _ _ _⟩
    · rw [if_neg e] at hk
      exact key c t k hk
  · have hin : ∀ {c t k}, pM M x y b c t = some k → k = b ∨ ∃ c t, M c t = some k := fun {c t k} hk => by
      unfold pM at hk
      split at hk
      · cases hk; exact .inl rfl
      · exact .inr ⟨_, _, hk⟩
    have hold : ∀ {k}, k = b ∨ (∃ c t, M c t = some k) → ∃ c t, M c t = some k := fun {k} hk => hk.elim (fun e => ⟨_, _, e ▸ hb⟩) id
    obtain ⟨c1, u1, m1⟩ := hold (hin hk)
    obtain ⟨c2, u2, m2⟩ := hold (hin hk')
    by_cases k1 : k = b
    · by_cases k2 : k' = b
      · rw [k1, k2]
      · exfalso
        rw [k1, setEd_same, setEd_other _ k2] at he
        obtain ⟨o3, lo3, hi3, ho3, hm3, v1, v2, e3⟩ := h.edge c2 u2 k' m2
        obtain ⟨rfl, rfl, rfl, rfl⟩ := mkE_inj (o23 ho) (o23 ho3) (by omega) hm3.1 (he.trans e3)
        have := hm3.2.1 y (by omega) (by omega)
        rw [hm1.2.2.2] at this
        cases this
    · by_cases k2 : k' = b
      · exfalso
        rw [k2, setEd_same, setEd_other _ k1] at he
        obtain ⟨o3, lo3, hi3, ho3, hm3, v1, v2, e3⟩ := h.edge c1 u1 k m1
        obtain ⟨rfl, rfl, rfl, rfl⟩ := mkE_inj (o23 ho) (o23 ho3) (by omega) hm3.1 (he.symm.trans e3)
        have := hm3.2.1 y (by omega) (by omega)
        rw [hm1.2.2.2] at this
        cases this
      · rw [setEd_other _ k1, setEd_other _ k2] at he
        exact h.one _ _ _ _ _ _ m1 m2 he

/-- A side that begins an edge. -/
theorem UpI.fresh {d d' : Nat → Int → Int → Bool} {M : Int → Int → Option Nat} {Ed : Nat → R4} {o : Nat} {x y : Int} {b : Nat} (h : UpI d M Ed) (ho : o = 2 ∨ o = 3)
    (hd : ∀ o' c t, o' = 2 ∨ o' = 3 → d' o' c t = (d o' c t || (decide (o' = o) && (decide (c = x) && decide (t = y)))))
    (hup : ∀ o', o' = 2 ∨ o' = 3 → d o' x (y + 1) = false) (hat : d o x y = false) (hlow : d o x (y - 1) = false) (hb : ∀ c t, M c t ≠ some b) :
    UpI d' (pM M x y b) (setEd Ed b (mkE o x y (y + 1))) := by
  have hoth : ∀ {o' c t}, (o' = 2 ∨ o' = 3) → ¬ (o' = o ∧ c = x ∧ t = y) → d' o' c t = d o' c t := fun {o' c t} h1 h2 => by
    rw [hd _ _ _ h1]
    cases hx : (decide (o' = o) && (decide (c = x) && decide (t = y))) with
    | false => simp
    | true =>
      simp only [Bool.and_eq_true, decide_eq_true_eq] at hx
      exact absurd hx h2
  have hself : d' o x y = true := by rw [hd _ _ _ ho]; simp
  have hnew : MaxI (d' o x) y (y + 1) := by
    refine ⟨by omega, fun s s1 s2 => ?_, ?_, ?_⟩
    · rw [show s = y by omega]; exact hself
    · rw [hoth ho (by omega)]; exact hlow
    · rw [hoth ho (by omega)]; exact hup o ho
  have key : ∀ c t k, M c t = some k → ∃ o' lo' hi', (o' = 2 ∨ o' = 3) ∧ MaxI (d' o' c) lo' hi' ∧ lo' ≤ t ∧ t < hi' ∧ setEd Ed b (mkE o x y (y + 1)) k = mkE o' c lo' hi' := by
    intro c t k hk
    obtain ⟨o2, lo2, hi2, ho2, hm2, u1, u2, e2⟩ := h.edge c t k hk
    have hkb : k ≠ b := fun e => hb c t (e ▸ hk)
    refine ⟨o2, lo2, hi2, ho2, ?_, u1, u2, by rw [setEd_other _ hkb]; exact e2⟩
    by_cases hoc : o2 = o ∧ c = x
    · obtain ⟨rfl, rfl⟩ := hoc
      have hne : ¬ (lo2 ≤ y ∧ y ≤ hi2) := by
        rintro ⟨w1, w2⟩
        by_cases hy : y = hi2
        · have := hm2.2.1 (y - 1) (by have := hm2.1; omega) (by omega)
          rw [hlow] at this
          cases this
        · have := hm2.2.1 y w1 (by omega)
          rw [hat] at this
          cases this
      have hlo2 : lo2 - 1 ≠ y := by
        intro e
        have := hm2.2.1 (y + 1) (by omega) (by have := hm2.1; omega)
        rw [hup o2 ho2] at this
        cases this
      refine ⟨hm2.1, fun s s1 s2 => ?_, ?_, ?_⟩
      · rw [hoth ho2 (by omega)]; exact hm2.2.1 s s1 s2
      · rw [hoth ho2 (by omega)]; exact hm2.2.2.1
      · rw [hoth ho2 (by have := hm2.1; omega)]; exact hm2.2.2.2
    · rw [show d' o2 c = d o2 c from funext fun s => hoth ho2 (fun e => hoc ⟨e.1, e.2.1⟩)]
      exact hm2
  refine ⟨fun c t => ?_, fun c t k hk => ?_, fun c t c' t' k k' hk hk' he => ?_⟩
  · unfold pM
    by_cases e : c = x ∧ t = y
    · obtain ⟨rfl, rfl⟩ := e
      rw [if_pos ⟨rfl, rfl⟩]
      rcases ho with rfl | rfl <;> simp [hself]
    · rw [if_neg e, h.dom, hoth (.inl rfl) (fun w => e ⟨w.2.1, w.2.2⟩), hoth (.inr rfl) (fun w => e ⟨w.2.1, w.2.2⟩)]
  · unfold pM at hk
    by_cases e : c = x ∧ t = y
    · rw [if_pos e] at hk
      cases hk
      rw [e.1, e.2]
      exact ⟨o, y, y + 1, ho, hnew, by omega, by omega, setEd_same _ _ _⟩
    · rw [if_neg e] at hk
      exact key c t k hk
  · have hin : ∀ {c t k}, pM M x y b c t = some k → k = b ∨ ∃ c t, M c t = some k := fun {c t k} hk => by
      unfold pM at hk
      split at hk
      · cases hk; exact .inl rfl
      · exact .inr ⟨_, _, hk⟩
    have far : ∀ {k}, (∃ c t, M c t = some k) → k ≠ b ∧ Ed k ≠ mkE o x y (y + 1) := fun {k} ⟨c, t, hk⟩ => by
      refine ⟨fun e => hb c t (e ▸ hk), fun e => ?_⟩
      obtain ⟨o3, lo3, hi3, ho3, hm3, v1, v2, e3⟩ := h.edge c t k hk
      obtain ⟨rfl, rfl, rfl, rfl⟩ := mkE_inj (o23 ho) (o23 ho3) (by omega) hm3.1 (e.symm.trans e3)
      have := hm3.2.1 y (by omega) (by omega)
      rw [hat] at this
      cases this
    rcases hin hk with k1 | k1 <;> rcases hin hk' with k2 | k2
    · rw [k1, k2]
    · rw [k1, setEd_same, setEd_other _ (far k2).1] at he
      exact absurd he.symm (far k2).2
    · rw [k2, setEd_same, setEd_other _ (far k1).1] at he
      exact absurd he (far k1).2
    · obtain ⟨c1, u1, m1⟩ := k1
      obtain ⟨c2, u2, m2⟩ := k2
      rw [setEd_other _ (far ⟨c1, u1, m1⟩).1, setEd_other _ (far ⟨c2, u2, m2⟩).1] at he
      exact h.one _ _ _ _ _ _ m1 m2 he

theorem rowsQ_sorted : ∀ (f : Nat) (P Q R S : Nat → Int) (n : Nat), n ≤ f → (∀ i, i < n → rvB (P i) (Q i) (R i) (S i) = true) → (∀ i j, i < j → j < n → (Q i = Q j ∧ S i = S j) ∨ S i ≤ Q j) → (rowsQ f P Q R S n).Pairwise (fun e e' => e.1 < e'.1)
  | 0, P, Q, R, S, n, hn, _, _ => by simp [rowsQ]
  | f + 1, P, Q, R, S, n, hn, hv, ho => by
    rw [rowsQ]
    by_cases h0 : n = 0
    · rw [if_pos h0]; exact .nil
    · rw [if_neg h0]
      obtain ⟨hN1, hN2, hN3⟩ := bandN_spec Q S n n 1 (by omega)
      have hN4 := bandN_max Q S n n 1 (by omega)
      generalize bandN Q S n n 1 = N at hN1 hN2 hN3 hN4
      have ih := rowsQ_sorted f (shN N P) (shN N Q) (shN N R) (shN N S) (n - N) (by omega) (fun i hi => hv (N + i) (by omega)) (fun i j hij hj => ho (N + i) (N + j) (by omega) (by omega))
      have v0 := rvB_t (hv 0 (by omega))
      have hfar : ∀ i, N ≤ i → i < n → S 0 ≤ Q i := fun i h1 h2 => by
        have g1 : S 0 ≤ Q N := by
          rcases ho 0 N (by omega) (by omega) with h | h
          · exact absurd ⟨h.1.symm, h.2.symm⟩ (hN4 (by omega))
          · exact h
        by_cases e : i = N
        · rw [e]; exact g1
        · have vN := rvB_t (hv N (by omega))
          rcases ho N i (by omega) h2 with h | h <;> omega
      refine List.pairwise_append.2 ⟨?_, ih, fun e he e' he' => ?_⟩
      · unfold bandRows
        exact List.pairwise_map.2 (List.pairwise_lt_range.imp fun {a b} h => by dsimp only; omega)
      · obtain ⟨j, hj, rfl⟩ := List.mem_map.1 he
        have hj' := List.mem_range.1 hj
        obtain ⟨i', k1, k2, k3⟩ := rowsQ_mem f _ _ _ _ _ e' (fun i hi => hv (N + i) (by omega)) he'
        replace k2 : Q (N + i') ≤ e'.1 := k2
        have k4 := hfar (N + i') (by omega) (by omega)
        dsimp only
        omega
theorem rowsQ_inc {P Q R S : Nat → Int} {n : Nat} (hok : okR P Q R S n = true) : (rowsQ n P Q R S n).Pairwise (fun e e' => e.1 < e'.1) :=
  rowsQ_sorted n P Q R S n (Nat.le_refl _) (okR_all hok) (fun i j hij hj => (okR_ord hok hij hj).imp (fun h => ⟨h.1, h.2.1⟩) id)
theorem rowsQ_side {P Q R S : Nat → Int} {n : Nat} (hok : okR P Q R S n = true) {o : Nat} (ho : o = 2 ∨ o = 3) {c t : Int} (h : gS (covF P Q R S n) o c t = true) : ∃ e, e ∈ rowsQ n P Q R S n ∧ e.1 = t := by
  apply Classical.byContradiction
  intro hn
  have hz := rowsQ_all hok t (fun e he h1 => hn ⟨e, he, h1⟩)
  rcases ho with rfl | rfl
  · have := gS_c.2.2.1 h; rw [hz] at this; cases this
  · have := gS_c.2.2.2 h; rw [hz] at this; cases this

/-- The sides of the rows that have come. -/
def dnP (f : Nat → Bool) (ps : List RowE) (o : Nat) (c t : Int) : Bool := gS f o c t && ps.any (fun e => decide (e.1 = t))
theorem dnP_nil (f : Nat → Bool) (o : Nat) (c t : Int) : dnP f [] o c t = false := by simp [dnP]
theorem dnP_row {f : Nat → Bool} {L ps post : List RowE} {e : RowE} (hL : L = ps ++ e :: post) (hs : L.Pairwise (fun e e' => e.1 < e'.1)) (hall : ∀ {o : Nat} {c t : Int}, o = 2 ∨ o = 3 → gS f o c t = true → ∃ e, e ∈ L ∧ e.1 = t) {o : Nat} (ho : o = 2 ∨ o = 3) (c t : Int) :
    dn f e.1 0 o c t = dnP f ps o c t ∧ dnP f (ps ++ [e]) o c t = dn f e.1 (runsL f e.1).length o c t := by
  cases hg : gS f o c t with
  | false => simp [dn, dnP, hg]
  | true =>
    obtain ⟨e1, he1, rfl⟩ := hall ho hg
    rw [hL, List.pairwise_append, List.pairwise_cons] at hs
    obtain ⟨s1, ⟨s2, s3⟩, s4⟩ := hs
    have hrun := run_all ho hg
    simp only [dn, dnP, hg, Bool.true_and, List.take_zero, List.not_mem_nil, decide_false, Bool.and_false, Bool.or_false, List.take_length, List.any_append, List.any_cons, List.any_nil]
    rw [hL] at he1
    rcases List.mem_append.1 he1 with h1 | h1
    · have h2 := s4 e1 h1 e (by simp)
      have h3 : ps.any (fun e => decide (e.1 = e1.1)) = true := List.any_eq_true.2 ⟨e1, h1, by simp⟩
      rw [h3, decide_eq_true h2]
      simp
    · have h3 : ps.any (fun e => decide (e.1 = e1.1)) = false := by
        rw [List.any_eq_false]
        intro e2 he2
        have := s4 e2 he2 e1 h1
        simp; omega
      rcases List.mem_cons.1 h1 with rfl | h1
      · rw [h3, decide_eq_false (by omega)]
        simp [hrun]
      · have h2 := s2 e1 h1
        rw [h3, decide_eq_false (by omega), decide_eq_false (by omega), decide_eq_false (by omega)]
        simp
theorem dnP_all {f : Nat → Bool} {L : List RowE} (hall : ∀ {o : Nat} {c t : Int}, o = 2 ∨ o = 3 → gS f o c t = true → ∃ e, e ∈ L ∧ e.1 = t) {o : Nat} (ho : o = 2 ∨ o = 3) (c t : Int) : dnP f L o c t = gS f o c t := by
  cases hg : gS f o c t with
  | false => simp [dnP, hg]
  | true =>
    obtain ⟨e1, he1, rfl⟩ := hall ho hg
    simp only [dnP, hg, Bool.true_and]
    exact List.any_eq_true.2 ⟨e1, he1, by simp⟩
end Go.Proofs.YtmabdemdapnmkaaGreatDoor
