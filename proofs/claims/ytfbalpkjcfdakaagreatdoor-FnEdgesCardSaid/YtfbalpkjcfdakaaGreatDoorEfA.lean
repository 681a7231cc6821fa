/- No set has more than 12800 edges: four orientations, eighty lines each, forty edges on a line. -/
import Derived.Test.YtfbalpkjcfdakaaGreatDoorZI
import Derived.Test.YtfbalpkjcfdakaaGreatDoorEgZ
namespace Go.Proofs.YtfbalpkjcfdakaaGreatDoor
set_option linter.unusedVariables false
set_option linter.unusedSimpArgs false

def cdE (e : R4) : Int := if e.b = e.d then (if e.a < e.c then (e.b + 40) * 40 + (e.a + 40) / 2 else 3200 + (e.b + 39) * 40 + (e.c + 40) / 2) else (if e.b < e.d then 6400 + (e.a + 39) * 40 + (e.b + 40) / 2 else 9600 + (e.a + 40) * 40 + (e.d + 40) / 2)
def ofE (o : Nat) : Int := if o = 0 then 40 else if o = 1 then 39 else if o = 2 then 39 else 40
theorem cdE_mk {o : Nat} {c lo hi : Int} (ho : o < 4) (h : lo < hi) : cdE (mkE o c lo hi) = 3200 * (o : Int) + (c + ofE o) * 40 + (lo + 40) / 2 := by
  rcases o4 ho with rfl | rfl | rfl | rfl
  · simp [cdE, mkE, ofE, h]
  · simp [cdE, mkE, ofE, Int.not_lt.2 (Int.le_of_lt h)]
  · simp [cdE, mkE, ofE, h, Int.ne_of_lt h]
  · simp [cdE, mkE, ofE, Int.not_lt.2 (Int.le_of_lt h), (Int.ne_of_lt h).symm]
theorem gS_cE {f : Nat → Bool} {o : Nat} {c t : Int} (ho : o < 4) (h : gS f o c t = true) : (-40 ≤ t ∧ t ≤ 39) ∧ 0 ≤ c + ofE o ∧ c + ofE o ≤ 79 := by
  rcases o4 ho with rfl | rfl | rfl | rfl <;> simp only [gS, ofE, Bool.and_eq_true] at h ⊢ <;> have := hasB_t h.1 <;> simp <;> omega
theorem IsEdge.cd {f : Nat → Bool} {e : R4} (h : IsEdge f e) : 0 ≤ cdE e ∧ cdE e < 12800 := by
  obtain ⟨o, c, lo, hi, ho, hm, rfl⟩ := h
  rw [cdE_mk ho hm.1]
  have := gS_cE ho (hm.2.1 lo (Int.le_refl _) hm.1)
  omega
theorem cdE_inj {f : Nat → Bool} {e e' : R4} (h : IsEdge f e) (h' : IsEdge f e') (he : cdE e = cdE e') : e = e' := by
  obtain ⟨o, c, lo, hi, ho, hm, rfl⟩ := h
  obtain ⟨o', c', lo', hi', ho', hm', rfl⟩ := h'
  rw [cdE_mk ho hm.1, cdE_mk ho' hm'.1] at he
  have g1 := hm.2.1 lo (Int.le_refl _) hm.1
  have g2 := hm'.2.1 lo' (Int.le_refl _) hm'.1
  have b1 := gS_cE ho g1
  have b2 := gS_cE ho' g2
  generalize hx : c + ofE o = x at he b1
  generalize hy : c' + ofE o' = y at he b2
  obtain rfl : o = o' := by omega
  obtain rfl : x = y := by omega
  obtain rfl : c = c' := by omega
  have hl : lo = lo' ∨ lo' = lo + 1 ∨ lo = lo' + 1 := by omega
  rcases hl with rfl | rfl | rfl
  · obtain ⟨-, rfl⟩ := hm.eq hm' (Int.le_refl _) hm.1 (Int.le_refl _) hm'.1
    rfl
  · have := hm'.2.2.1
    rw [show lo + 1 - 1 = lo by omega, g1] at this
    cases this
  · have := hm.2.2.1
    rw [show lo' + 1 - 1 = lo' by omega, g2] at this
    cases this
theorem EdgesOf.len128 {f : Nat → Bool} {L : List R4} (h : EdgesOf f L) : L.length ≤ 12800 := by
  have hn : (L.map fun e => (cdE e).toNat).Nodup := by
    refine List.pairwise_map.2 (h.nodup.imp_of_mem fun {a b} ha hb hab e => hab ?_)
    have i1 := (h.2 a).1 ha
    have i2 := (h.2 b).1 hb
    have c1 := i1.cd
    have c2 := i2.cd
    exact cdE_inj i1 i2 (by omega)
  have := nodup_le (m := List.range 12800) hn fun x hx => by
    obtain ⟨e, he, rfl⟩ := List.mem_map.1 hx
    have := ((h.2 e).1 he).cd
    exact List.mem_range.2 (by omega)
  simpa using this
end Go.Proofs.YtfbalpkjcfdakaaGreatDoor
