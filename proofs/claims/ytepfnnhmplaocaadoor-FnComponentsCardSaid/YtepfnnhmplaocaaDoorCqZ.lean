/- The parts of a set, its filling, and what FnComponents finds at each component. No run. -/
import Derived.Test.YtepfnnhmplaocaaDoorCpI
import Derived.Test.YtepfnnhmplaocaaDoorCpJ
import Derived.Test.YtepfnnhmplaocaaDoorQT
import Derived.Test.YtepfnnhmplaocaaDoorCpT
import Derived.Test.YtepfnnhmplaocaaDoorCpM
import Derived.Test.YtepfnnhmplaocaaDoorCpX
import Derived.Test.YtepfnnhmplaocaaDoorQP
import Derived.Test.YtepfnnhmplaocaaDoorCpY
import Derived.Test.YtepfnnhmplaocaaDoorCpZ
namespace Go.Proofs.YtepfnnhmplaocaaDoor
open Go.RowKit
set_option linter.unusedVariables false
set_option linter.unusedSimpArgs false

theorem Conn.into {f g : Nat → Bool} {wide : Bool} {x y : Int} (hs : ∀ u v, Conn f wide x y u v → hasB g u v = true) {u v : Int} (h : Conn f wide x y u v) : Conn g wide x y u v := by
  induction h with
  | start k => exact .start (hs _ _ (.start k))
  | step h a k ih => exact .step ih a (hs _ _ (.step h a k))
theorem innB_ex {g : Nat → Bool} (h : innB g = false) : ∃ j : Nat, j < 80 ∧ brd g (-40 + (j : Int)) = true := Classical.byContradiction fun hn => by
  have := innB_t (g := g) fun j hj => by
    cases e : brd g (-40 + (j : Int)) with
    | false => rfl
    | true => exact absurd ⟨j, hj, e⟩ hn
  rw [h] at this; cases this
/-- The set with its holes. -/
noncomputable def filF (f : Nat → Bool) (k : Nat) : Bool := tt 14 (f k) (anyF (holL f) k)
/-- A cell of a hole: its part is inner. -/
theorem hol_cell {f : Nat → Bool} {k : Nat} (hk : k < 6400) : anyF (holL f) k = true ↔ notF f k = true ∧ innB (partF (notF f) true (cxN k) (cyN k)) = true := by
  unfold anyF
  rw [List.any_eq_true]
  constructor
  · rintro ⟨l, hl, hc⟩
    unfold holL at hl
    obtain ⟨s, hs, rfl⟩ := List.mem_map.1 hl
    obtain ⟨hs, hi⟩ := List.mem_filter.1 hs
    unfold covL at hc
    rw [cov_canonL_all _ hk] at hc
    have hcn := partF_t.1 hc
    refine ⟨?_, by rw [← partF_same hcn]; exact hi⟩
    have hr := hcn.right
    obtain ⟨e, c2, c3⟩ := cIx_cN hk
    rw [hasB_in ⟨c2, c3⟩, e] at hr
    exact hr
  · rintro ⟨hn, hi⟩
    obtain ⟨s, hs, hps⟩ := startsTo_all (wide := true) (Nat.le_refl 6400) hk hn
    have hcn := partF_t.1 hps
    have es := partF_same hcn
    refine ⟨canonL (partF (notF f) true (cxN s) (cyN s)), ?_, ?_⟩
    · unfold holL
      exact List.mem_map.2 ⟨s, List.mem_filter.2 ⟨hs, by rw [es]; exact hi⟩, rfl⟩
    · unfold covL; rw [cov_canonL_all _ hk]; exact hps
theorem fil_not {f : Nat → Bool} {k : Nat} (hk : k < 6400) : notF (filF f) k = true ↔ notF f k = true ∧ innB (partF (notF f) true (cxN k) (cyN k)) = false := by
  have h := hol_cell (f := f) hk
  have e : notF (filF f) k = (notF f k && !(anyF (holL f) k)) := by unfold notF filF; cases f k <;> cases anyF (holL f) k <;> rfl
  rw [e, Bool.and_eq_true, Bool.not_eq_true', ← Bool.not_eq_true, h]
  constructor
  · rintro ⟨h1, h2⟩
    refine ⟨h1, ?_⟩
    cases hi : innB (partF (notF f) true (cxN k) (cyN k)) with
    | false => rfl
    | true => exact absurd ⟨h1, hi⟩ h2
  · rintro ⟨h1, h2⟩
    exact ⟨h1, fun hh => by rw [h2] at hh; cases hh.2⟩
/-- Where a cell is left out of the filling, so is all of its part. -/
theorem fil_part {f : Nat → Bool} {k : Nat} (hk : k < 6400) (h : notF (filF f) k = true) {u v : Int} (hc : Conn (notF f) true (cxN k) (cyN k) u v) : Conn (notF (filF f)) true (cxN k) (cyN k) u v := by
  obtain ⟨h1, h2⟩ := (fil_not hk).1 h
  refine hc.into fun p q hp => ?_
  have hch := hasB_chip hp.right
  have hr := hp.right
  rw [hasB_in hch] at hr ⊢
  have hkp : cIx p q < 6400 := by unfold cIx; omega
  refine (fil_not hkp).2 ⟨hr, ?_⟩
  rw [(cxN_at hch).1, (cxN_at hch).2, ← partF_same hp]
  exact h2
theorem fill_noholes (f : Nat → Bool) : holL (filF f) = [] := by
  unfold holL
  rw [List.map_eq_nil_iff, List.filter_eq_nil_iff]
  intro s hs
  obtain ⟨hs6, hsn⟩ := startsTo_mem hs
  obtain ⟨h1, h2⟩ := (fil_not hs6).1 hsn
  obtain ⟨j, hj, hb⟩ := innB_ex h2
  have := innB_f (g := partF (notF (filF f)) true (cxN s) (cyN s)) hj (by
    have key : ∀ u v, hasB (partF (notF f) true (cxN s) (cyN s)) u v = true → hasB (partF (notF (filF f)) true (cxN s) (cyN s)) u v = true := fun u v h => has_part.2 (fil_part hs6 hsn (has_part.1 h))
    unfold brd at hb ⊢
    simp only [Bool.or_eq_true] at hb ⊢
    rcases hb with ((hb | hb) | hb) | hb
    · exact .inl (.inl (.inl (key _ _ hb)))
    · exact .inl (.inl (.inr (key _ _ hb)))
    · exact .inl (.inr (key _ _ hb))
    · exact .inr (key _ _ hb))
  rw [this]; simp
end Go.Proofs.YtepfnnhmplaocaaDoor

namespace Go.Proofs.YtepfnnhmplaocaaDoor
open Go.RowKit
set_option linter.unusedVariables false
set_option linter.unusedSimpArgs false

/-- A part of a part is the part. -/
theorem part_conn {f : Nat → Bool} {wide : Bool} {x y u v p q : Int} (h1 : Conn f wide x y u v) (h2 : Conn f wide x y p q) : Conn (partF f wide x y) wide u v p q :=
  (Conn.symm h1 |>.trans h2).into fun s t h => has_part.2 (h1.trans h)
theorem parts_one {f : Nat → Bool} {wide : Bool} {x y : Int} (h : hasB f x y = true) : (startsTo (partF f wide x y) wide 6400).length = 1 := by
  obtain ⟨g, hg⟩ : ∃ g, partF f wide x y = g := ⟨_, rfl⟩
  have hch := hasB_chip h
  have hk : cIx x y < 6400 := by unfold cIx; omega
  have hin : g (cIx x y) = true := by
    rw [← hg, partF_t, (cxN_at hch).1, (cxN_at hch).2]; exact .start h
  obtain ⟨s, hs, _⟩ := startsTo_all (wide := wide) (Nat.le_refl 6400) hk hin
  have hap := startsTo_apart (f := g) (wide := wide) (n := 6400)
  have hmem : ∀ t, t ∈ startsTo g wide 6400 → t < 6400 ∧ g t = true := fun t ht => startsTo_mem ht
  rw [hg]
  obtain ⟨L, hL⟩ : ∃ L, startsTo g wide 6400 = L := ⟨_, rfl⟩
  rw [hL] at hs hap hmem ⊢
  match L, hs, hap, hmem with
  | [], hs, _, _ => simp at hs
  | [_], _, _, _ => rfl
  | a :: b :: r, _, hap, hmem =>
    obtain ⟨ha, ga⟩ := hmem a (by simp)
    obtain ⟨hb, gb⟩ := hmem b (by simp)
    have hf := ((List.pairwise_cons.1 hap).1 b (by simp)).2
    rw [← hg] at ga gb
    have := partF_t.2 (part_conn (partF_t.1 ga) (partF_t.1 gb))
    rw [hg, hf] at this
    cases this
/-- The parts make up the set. -/
theorem any_parts {f : Nat → Bool} {wide : Bool} {k : Nat} (hk : k < 6400) : anyF (cmpL f wide) k = f k := by
  rw [Bool.eq_iff_iff]
  unfold anyF
  rw [List.any_eq_true]
  constructor
  · rintro ⟨l, hl, hc⟩
    unfold cmpL at hl
    obtain ⟨s, _, rfl⟩ := List.mem_map.1 hl
    unfold covL at hc
    rw [cov_canonL_all _ hk] at hc
    have hr := (partF_t.1 hc).right
    obtain ⟨e, c2, c3⟩ := cIx_cN hk
    rw [hasB_in ⟨c2, c3⟩, e] at hr
    exact hr
  · intro h
    obtain ⟨s, hs, hps⟩ := startsTo_all (wide := wide) (Nat.le_refl 6400) hk h
    refine ⟨canonL (partF f wide (cxN s) (cyN s)), ?_, ?_⟩
    · unfold cmpL; exact List.mem_map.2 ⟨s, hs, rfl⟩
    · unfold covL; rw [cov_canonL_all _ hk]; exact hps
/-- A part has no cell in the parts before it. -/
theorem parts_apart {f : Nat → Bool} {wide : Bool} {i : Nat} {l : List R4} (hl : (cmpL f wide)[i]? = some l) {k : Nat} (hk : k < 6400) (hc : covL l k = true) : anyF ((cmpL f wide).take i) k = false := by
  unfold cmpL at hl ⊢
  rw [List.getElem?_map] at hl
  obtain ⟨s, hs, rfl⟩ := Option.map_eq_some_iff.1 hl
  unfold covL at hc
  rw [cov_canonL_all _ hk] at hc
  rw [← List.map_take]
  unfold anyF
  rw [List.any_eq_false]
  intro m hm hcm
  obtain ⟨t, ht, rfl⟩ := List.mem_map.1 hm
  unfold covL at hcm
  rw [cov_canonL_all _ hk] at hcm
  obtain ⟨j, hj⟩ := List.getElem?_of_mem ht
  rw [List.getElem?_take] at hj
  split at hj
  · rename_i hji
    have hap := startsTo_apart (f := f) (wide := wide) (n := 6400)
    rw [List.pairwise_iff_getElem] at hap
    obtain ⟨hj1, hj2⟩ := List.getElem?_eq_some_iff.1 hj
    obtain ⟨hi1, hi2⟩ := List.getElem?_eq_some_iff.1 hs
    have := (hap j i hj1 hi1 hji).2
    rw [hj2, hi2] at this
    have hs6 := (startsTo_mem (List.mem_of_getElem? hs)).1
    have hcn := (partF_t.1 hcm).trans (partF_t.1 hc).symm
    rw [partF_t.2 hcn] at this
    cases this
  · cases hj
end Go.Proofs.YtepfnnhmplaocaaDoor

namespace Go.Proofs.YtepfnnhmplaocaaDoor
open Go.RowKit
set_option linter.unusedVariables false
set_option linter.unusedSimpArgs false

/-- The union of the first i lists. -/
noncomputable def allL (LL : List (List R4)) (i : Nat) : List R4 := canonL (anyF (LL.take i))
theorem part_at {f : Nat → Bool} {i : Nat} {l : List R4} (hl : (cmpL f false)[i]? = some l) : ∃ x y, hasB f x y = true ∧ l = canonL (partF f false x y) := by
  unfold cmpL at hl
  rw [List.getElem?_map] at hl
  obtain ⟨s, hs, rfl⟩ := Option.map_eq_some_iff.1 hl
  obtain ⟨h1, h2⟩ := startsTo_mem (List.mem_of_getElem? hs)
  obtain ⟨e, c2, c3⟩ := cIx_cN h1
  exact ⟨cxN s, cyN s, by rw [hasB_in ⟨c2, c3⟩, e]; exact h2, rfl⟩
theorem comp_one {f : Nat → Bool} {i : Nat} {l : List R4} (hl : (cmpL f false)[i]? = some l) : ccV (pA l) (pB l) (pC l) (pD l) l.length = 1 := by
  obtain ⟨x, y, h, rfl⟩ := part_at hl
  unfold ccV
  rw [if_pos (okR_canonL _), cmpL_congr fun k hk => cov_canonL_all _ hk]
  unfold cmpL
  rw [List.length_map, parts_one h]; rfl
theorem comp_ov {f : Nat → Bool} {i : Nat} {l : List R4} (hl : (cmpL f false)[i]? = some l) : ovL (pA (allL (cmpL f false) i)) (pB (allL (cmpL f false) i)) (pC (allL (cmpL f false) i)) (pD (allL (cmpL f false) i)) (allL (cmpL f false) i).length (pA l) (pB l) (pC l) (pD l) l.length = false := by
  unfold ovL
  rw [Bool.and_eq_false_iff]
  right
  rw [decide_eq_false_iff_not]
  have : (canonL (opF 8 (pA (allL (cmpL f false) i)) (pB (allL (cmpL f false) i)) (pC (allL (cmpL f false) i)) (pD (allL (cmpL f false) i)) (allL (cmpL f false) i).length (pA l) (pB l) (pC l) (pD l) l.length)).length = 0 := by
    rw [canonL_none_iff]
    intro k hk
    unfold opF allL
    rw [cov_canonL_all _ hk]
    cases hc : covF (pA l) (pB l) (pC l) (pD l) l.length k with
    | false => cases anyF (List.take i (cmpL f false)) k <;> rfl
    | true => rw [parts_apart hl hk hc]; rfl
  omega
theorem comp_next {f : Nat → Bool} {i : Nat} {l : List R4} (hl : (cmpL f false)[i]? = some l) : opL 14 (pA (allL (cmpL f false) i)) (pB (allL (cmpL f false) i)) (pC (allL (cmpL f false) i)) (pD (allL (cmpL f false) i)) (allL (cmpL f false) i).length (pA l) (pB l) (pC l) (pD l) l.length = allL (cmpL f false) (i + 1) := by
  have hs : ∀ k, tt 14 (anyF ((cmpL f false).take i) k) (covL l k) = anyF ((cmpL f false).take (i + 1)) k := fun k => by
    rw [List.take_add_one, hl, Option.toList_some, anyF_snoc]
  obtain ⟨x, y, h, rfl⟩ := part_at hl
  unfold allL
  rw [opL_canon]
  refine canonL_congr fun k hk => ?_
  rw [← hs k]
  unfold covL
  rw [cov_canonL_all _ hk]
theorem comp_last (f : Nat → Bool) : allL (cmpL f false) (cmpL f false).length = canonL f := by
  unfold allL
  rw [List.take_of_length_le (Nat.le_refl _)]
  exact canonL_congr fun k hk => any_parts hk
theorem comp_at {P Q R S : Nat → Int} {n : Nat} (hok : okR P Q R S n = true) {i : Nat} {l : List R4} (hl : (cmpL (covF P Q R S n) false)[i]? = some l) {r : R4} (hr : r ∈ l) : caL P Q R S n r.a r.b = l := by
  obtain ⟨x, y, h, rfl⟩ := part_at hl
  obtain ⟨v1, v2, v3, v4, v5, v6⟩ := rvB_t (canonL_valid _ r hr)
  have hc := has_part.1 (has_canonL.2 ⟨r, hr, by omega, by omega, by omega, by omega⟩ : hasB (partF (covF P Q R S n) false x y) r.a r.b = true)
  unfold caL
  rw [hok, hc.right, if_pos (by rfl), partF_same hc]
theorem comp_so {P Q R S : Nat → Int} {n : Nat} (hok : okR P Q R S n = true) {i : Nat} {l : List R4} (hl : (cmpL (covF P Q R S n) false)[i]? = some l) {r : R4} (hr : r ∈ l) : soL P Q R S n (fun _ => r.a) (fun _ => r.b) (fun _ => r.c) (fun _ => r.d) 1 = l := by
  obtain ⟨x, y, h, rfl⟩ := part_at hl
  have hv := canonL_valid _ r hr
  obtain ⟨v1, v2, v3, v4, v5, v6⟩ := rvB_t hv
  have hcell : ∀ u v, r.a ≤ u → u < r.c → r.b ≤ v → v < r.d → Conn (covF P Q R S n) false x y u v := fun u v h1 h2 h3 h4 => has_part.1 (has_canonL.2 ⟨r, hr, h1, h2, h3, h4⟩)
  unfold soL
  rw [hok, one_ok hv, if_pos (by rfl)]
  apply canonL_congr
  intro k hk
  rw [Bool.eq_iff_iff]
  unfold anyF
  rw [List.any_eq_true]
  have hcov : ∀ j, covF (fun _ => r.a) (fun _ => r.b) (fun _ => r.c) (fun _ => r.d) 1 j = true ↔ (r.a ≤ cxN j ∧ cxN j < r.c ∧ r.b ≤ cyN j ∧ cyN j < r.d) := fun j => by
    unfold covF
    rw [covB_t]
    exact ⟨fun ⟨_, _, h⟩ => h, fun h => ⟨0, by omega, h⟩⟩
  have hq : ∀ g : Nat → Bool, 0 < (canonL (opF 8 (pA (canonL g)) (pB (canonL g)) (pC (canonL g)) (pD (canonL g)) (canonL g).length (fun _ => r.a) (fun _ => r.b) (fun _ => r.c) (fun _ => r.d) 1)).length ↔ ∃ j, j < 6400 ∧ g j = true ∧ (r.a ≤ cxN j ∧ cxN j < r.c ∧ r.b ≤ cyN j ∧ cyN j < r.d) := fun g => by
    constructor
    · intro h0
      refine Classical.byContradiction fun hn => ?_
      have : (canonL (opF 8 (pA (canonL g)) (pB (canonL g)) (pC (canonL g)) (pD (canonL g)) (canonL g).length (fun _ => r.a) (fun _ => r.b) (fun _ => r.c) (fun _ => r.d) 1)).length = 0 := (canonL_none_iff _).2 fun j hj => by
        unfold opF
        rw [cov_canonL_all g hj]
        cases h1 : g j <;> cases h2 : covF (fun _ => r.a) (fun _ => r.b) (fun _ => r.c) (fun _ => r.d) 1 j <;> first | rfl | exact absurd ⟨j, hj, h1, (hcov j).1 h2⟩ hn
      omega
    · rintro ⟨j, hj, h1, h2⟩
      refine Nat.pos_of_ne_zero fun h0 => ?_
      have := (canonL_none_iff _).1 h0 j hj
      unfold opF at this
      rw [cov_canonL_all g hj, h1, (hcov j).2 h2] at this
      revert this; decide
  constructor
  · rintro ⟨m, hm, hc⟩
    obtain ⟨hm, hp⟩ := List.mem_filter.1 hm
    unfold cmpL at hm
    obtain ⟨s, _, rfl⟩ := List.mem_map.1 hm
    rw [decide_eq_true_eq, hq] at hp
    obtain ⟨j, hj, h1, h2⟩ := hp
    have c1 := partF_t.1 h1
    have c2 := hcell _ _ h2.1 h2.2.1 h2.2.2.1 h2.2.2.2
    rw [partF_same c2, ← partF_same c1]
    unfold covL at hc
    rw [cov_canonL_all _ hk] at hc
    exact hc
  · intro hp
    have c0 := hcell r.a r.b (by omega) (by omega) (by omega) (by omega)
    have hch := hasB_chip c0.right
    have hcx := cxN_at hch
    have hk0 : cIx r.a r.b < 6400 := by unfold cIx; omega
    have hfk : covF P Q R S n (cIx r.a r.b) = true := (hasB_in hch).symm.trans c0.right
    obtain ⟨s, hs, hps⟩ := startsTo_all (wide := false) (Nat.le_refl 6400) hk0 hfk
    have hps2 := hps
    rw [partF_t, hcx.1, hcx.2] at hps
    refine ⟨canonL (partF (covF P Q R S n) false (cxN s) (cyN s)), List.mem_filter.2 ⟨?_, ?_⟩, ?_⟩
    · unfold cmpL; exact List.mem_map.2 ⟨s, hs, rfl⟩
    · rw [decide_eq_true_eq, hq]
      exact ⟨cIx r.a r.b, hk0, hps2, by rw [hcx.1, hcx.2]; omega⟩
    · unfold covL
      rw [cov_canonL_all _ hk, partF_same hps, ← partF_same c0]; exact hp
end Go.Proofs.YtepfnnhmplaocaaDoor
