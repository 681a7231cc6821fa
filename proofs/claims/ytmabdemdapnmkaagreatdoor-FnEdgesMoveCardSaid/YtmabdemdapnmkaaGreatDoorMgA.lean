/- Images of unit cells under transforms; the image of a union is the union of the images, the area of an image is the area. No program's run in it. -/
import Derived.Test.YtmabdemdapnmkaaGreatDoorQS
import Derived.Test.YtmabdemdapnmkaaGreatDoorDrZ
namespace Go.Proofs.YtmabdemdapnmkaaGreatDoor
open Go.RowKit
set_option linter.unusedVariables false
set_option linter.unusedSimpArgs false

/-- The image of a unit cell. -/
def cmX (o x y u v : Int) : Int := mr0 o x y u v (u + 1) (v + 1)
def cmY (o x y u v : Int) : Int := mr1 o x y u v (u + 1) (v + 1)
theorem o_cases {o : Int} (h0 : 0 ≤ o) (h7 : o ≤ 7) : o = 0 ∨ o = 1 ∨ o = 2 ∨ o = 3 ∨ o = 4 ∨ o = 5 ∨ o = 6 ∨ o = 7 := by omega
theorem cm_cov {o x y a b c d u v : Int} (h0 : 0 ≤ o) (h7 : o ≤ 7) (h1 : a < c) (h2 : b < d) :
    (mr0 o x y a b c d ≤ cmX o x y u v ∧ cmX o x y u v < mr2 o x y a b c d ∧ mr1 o x y a b c d ≤ cmY o x y u v ∧ cmY o x y u v < mr3 o x y a b c d) ↔ (a ≤ u ∧ u < c ∧ b ≤ v ∧ v < d) := by
  rcases o_cases h0 h7 with rfl | rfl | rfl | rfl | rfl | rfl | rfl | rfl <;> simp only [cmX, cmY, mr0, mr1, mr2, mr3, mvX, mvY, tX, tY, lo2_min, hi2_max] <;> simp <;> omega
theorem cm_ex {o x y : Int} (h0 : 0 ≤ o) (h7 : o ≤ 7) (p q : Int) : ∃ u v, cmX o x y u v = p ∧ cmY o x y u v = q := by
  rcases o_cases h0 h7 with rfl | rfl | rfl | rfl | rfl | rfl | rfl | rfl
  · exact ⟨p - x, q - y, by simp only [cmX, cmY, mr0, mr1, mr2, mr3, mvX, mvY, tX, tY, lo2_min, hi2_max]; simp; omega⟩
  · exact ⟨q - y, x - 1 - p, by simp only [cmX, cmY, mr0, mr1, mr2, mr3, mvX, mvY, tX, tY, lo2_min, hi2_max]; simp; omega⟩
  · exact ⟨x - 1 - p, y - 1 - q, by simp only [cmX, cmY, mr0, mr1, mr2, mr3, mvX, mvY, tX, tY, lo2_min, hi2_max]; simp; omega⟩
  · exact ⟨y - 1 - q, p - x, by simp only [cmX, cmY, mr0, mr1, mr2, mr3, mvX, mvY, tX, tY, lo2_min, hi2_max]; simp; omega⟩
  · exact ⟨p - x, y - 1 - q, by simp only [cmX, cmY, mr0, mr1, mr2, mr3, mvX, mvY, tX, tY, lo2_min, hi2_max]; simp; omega⟩
  · exact ⟨q - y, p - x, by simp only [cmX, cmY, mr0, mr1, mr2, mr3, mvX, mvY, tX, tY, lo2_min, hi2_max]; simp; omega⟩
  · exact ⟨x - 1 - p, q - y, by simp only [cmX, cmY, mr0, mr1, mr2, mr3, mvX, mvY, tX, tY, lo2_min, hi2_max]; simp; omega⟩
  · exact ⟨y - 1 - q, x - 1 - p, by simp only [cmX, cmY, mr0, mr1, mr2, mr3, mvX, mvY, tX, tY, lo2_min, hi2_max]; simp; omega⟩
theorem mr_box {o x y a b c d : Int} (h0 : 0 ≤ o) (h7 : o ≤ 7) (h1 : a < c) (h2 : b < d) :
    mr0 o x y a b c d = min (cmX o x y a b) (cmX o x y (c - 1) (d - 1)) ∧ mr1 o x y a b c d = min (cmY o x y a b) (cmY o x y (c - 1) (d - 1)) ∧ mr2 o x y a b c d = max (cmX o x y a b) (cmX o x y (c - 1) (d - 1)) + 1 ∧ mr3 o x y a b c d = max (cmY o x y a b) (cmY o x y (c - 1) (d - 1)) + 1 := by
  rcases o_cases h0 h7 with rfl | rfl | rfl | rfl | rfl | rfl | rfl | rfl <;> simp only [cmX, cmY, mr0, mr1, mr2, mr3, mvX, mvY, tX, tY, lo2_min, hi2_max] <;> simp <;> omega
theorem cm_inj {o x y u v u' v' : Int} (h0 : 0 ≤ o) (h7 : o ≤ 7) (hx : cmX o x y u v = cmX o x y u' v') (hy : cmY o x y u v = cmY o x y u' v') : u = u' ∧ v = v' := by
  have h := (cm_cov (o := o) (x := x) (y := y) (a := u') (b := v') (c := u' + 1) (d := v' + 1) (u := u) (v := v) h0 h7 (by omega) (by omega)).1 (by
    have := (cm_cov (o := o) (x := x) (y := y) (a := u') (b := v') (c := u' + 1) (d := v' + 1) (u := u') (v := v') h0 h7 (by omega) (by omega)).2 (by omega)
    rw [hx, hy]; exact this)
  omega

theorem cov_im {o x y : Int} {P Q R S : Nat → Int} (h0 : 0 ≤ o) (h7 : o ≤ 7) (u v : Int) : ∀ n, (∀ i, i < n → rvB (P i) (Q i) (R i) (S i) = true) →
    covB (imA o x y P Q R S) (imB o x y P Q R S) (imC o x y P Q R S) (imD o x y P Q R S) (cmX o x y u v) (cmY o x y u v) n = covB P Q R S u v n
  | 0, _ => rfl
  | n + 1, hv => by
    have ih := cov_im (x := x) (y := y) h0 h7 u v n fun i hi => hv i (by omega)
    rw [covB, covB, ih]
    congr 1
    have v0 := rvB_t (hv n (by omega))
    have hc := cm_cov (o := o) (x := x) (y := y) (a := P n) (b := Q n) (c := R n) (d := S n) (u := u) (v := v) h0 h7 (by omega) (by omega)
    rw [Bool.eq_iff_iff]
    simp only [Bool.and_eq_true, decide_eq_true_eq]
    constructor
    · rintro ⟨⟨⟨g1, g2⟩, g3⟩, g4⟩
      have := hc.1 ⟨g1, g2, g3, g4⟩
      exact ⟨⟨⟨this.1, this.2.1⟩, this.2.2.1⟩, this.2.2.2⟩
    · rintro ⟨⟨⟨g1, g2⟩, g3⟩, g4⟩
      have := hc.2 ⟨g1, g2, g3, g4⟩
      exact ⟨⟨⟨this.1, this.2.1⟩, this.2.2.1⟩, this.2.2.2⟩
theorem imV_at {o x y : Int} {P Q R S : Nat → Int} {n i : Nat} (h : imV o x y P Q R S n = true) (hi : i < n) : rvB (imA o x y P Q R S i) (imB o x y P Q R S i) (imC o x y P Q R S i) (imD o x y P Q R S i) = true := allV_at h hi
theorem imF_has {o x y : Int} {P Q R S : Nat → Int} {n : Nat} (h0 : 0 ≤ o) (h7 : o ≤ 7) (hv : ∀ i, i < n → rvB (P i) (Q i) (R i) (S i) = true) (hi : imV o x y P Q R S n = true) (u v : Int) : hasB (imF o x y P Q R S n) (cmX o x y u v) (cmY o x y u v) = covB P Q R S u v n := by
  unfold imF
  rw [hasB_cov fun i h => imV_at hi h, cov_im h0 h7 u v n hv]
/-- The image of a covered cell is on the chip. -/
theorem im_on {o x y : Int} {P Q R S : Nat → Int} {n : Nat} (h0 : 0 ≤ o) (h7 : o ≤ 7) (hv : ∀ i, i < n → rvB (P i) (Q i) (R i) (S i) = true) (hi : imV o x y P Q R S n = true) {u v : Int} (hc : covB P Q R S u v n = true) : (-40 ≤ cmX o x y u v ∧ cmX o x y u v ≤ 39) ∧ (-40 ≤ cmY o x y u v ∧ cmY o x y u v ≤ 39) := by
  have h := imF_has h0 h7 hv hi u v
  rw [hc] at h
  unfold hasB at h
  simp only [Bool.and_eq_true] at h
  exact inC_t h.1
theorem imV_mk {o x y : Int} {P Q R S : Nat → Int} {n : Nat} (h0 : 0 ≤ o) (h7 : o ≤ 7) (hv : ∀ i, i < n → rvB (P i) (Q i) (R i) (S i) = true)
    (h : ∀ u v, covB P Q R S u v n = true → (-40 ≤ cmX o x y u v ∧ cmX o x y u v ≤ 39) ∧ (-40 ≤ cmY o x y u v ∧ cmY o x y u v ≤ 39)) : imV o x y P Q R S n = true :=
  allV_mk fun i hi => by
    have v0 := rvB_t (hv i hi)
    have hb := mr_box (o := o) (x := x) (y := y) (a := P i) (b := Q i) (c := R i) (d := S i) h0 h7 (by omega) (by omega)
    have c1 := h (P i) (Q i) (covB_t.2 ⟨i, hi, by omega⟩)
    have c2 := h (R i - 1) (S i - 1) (covB_t.2 ⟨i, hi, by omega⟩)
    have e0 : imA o x y P Q R S i = mr0 o x y (P i) (Q i) (R i) (S i) := rfl
    have e1 : imB o x y P Q R S i = mr1 o x y (P i) (Q i) (R i) (S i) := rfl
    have e2 : imC o x y P Q R S i = mr2 o x y (P i) (Q i) (R i) (S i) := rfl
    have e3 : imD o x y P Q R S i = mr3 o x y (P i) (Q i) (R i) (S i) := rfl
    rw [e0, e1, e2, e3, hb.1, hb.2.1, hb.2.2.1, hb.2.2.2]
    generalize cmX o x y (P i) (Q i) = a1 at *
    generalize cmX o x y (R i - 1) (S i - 1) = a2 at *
    generalize cmY o x y (P i) (Q i) = b1 at *
    generalize cmY o x y (R i - 1) (S i - 1) = b2 at *
    exact rvB_mk (by omega)

/-- Nothing repeated, all of it there: no longer. -/
theorem nodup_le : ∀ (l m : List Nat), l.Nodup → (∀ x, x ∈ l → x ∈ m) → l.length ≤ m.length
  | [], m, _, _ => Nat.zero_le _
  | a :: l, m, hn, hs => by
    have ha := hs a (by simp)
    rw [List.nodup_cons] at hn
    have ih := nodup_le l (m.erase a) hn.2 fun x hx => (List.mem_erase_of_ne (fun e => hn.1 (by rw [← e]; exact hx))).2 (hs x (by simp [hx]))
    rw [List.length_erase_of_mem ha] at ih
    have := List.length_pos_of_mem ha
    simp only [List.length_cons]
    omega
theorem cntF_filter (f : Nat → Bool) : ∀ n, cntF f n = (((List.range n).filter f).length : Nat)
  | 0 => rfl
  | n + 1 => by
    rw [List.range_succ, List.filter_append, List.length_append]
    have ih := cntF_filter f n
    unfold cntF
    rw [ih]
    cases h : f n <;> simp [h]
theorem map_nodup {φ : Nat → Nat} : ∀ l : List Nat, l.Nodup → (∀ a b, a ∈ l → b ∈ l → φ a = φ b → a = b) → (l.map φ).Nodup
  | [], _, _ => by simp
  | a :: l, hn, hi => by
    rw [List.nodup_cons] at hn
    rw [List.map_cons, List.nodup_cons]
    refine ⟨fun h => ?_, map_nodup l hn.2 fun b c hb hc => hi b c (by simp [hb]) (by simp [hc])⟩
    obtain ⟨b, hb, e⟩ := List.mem_map.1 h
    exact hn.1 (hi b a (by simp [hb]) (by simp) e ▸ hb)
theorem cnt_le {f g : Nat → Bool} {N : Nat} (φ : Nat → Nat) (h : ∀ k, k < N → f k = true → φ k < N ∧ g (φ k) = true) (hi : ∀ a b, a < N → b < N → f a = true → f b = true → φ a = φ b → a = b) : cntF f N ≤ cntF g N := by
  rw [cntF_filter, cntF_filter]
  have hm : (((List.range N).filter f).map φ).length ≤ ((List.range N).filter g).length := by
    refine nodup_le _ _ (map_nodup _ ((List.Pairwise.filter _ List.nodup_range)) fun a b ha hb e => ?_) fun x hx => ?_
    · rw [List.mem_filter, List.mem_range] at ha hb
      exact hi a b ha.1 hb.1 ha.2 hb.2 e
    · obtain ⟨k, hk, rfl⟩ := List.mem_map.1 hx
      rw [List.mem_filter, List.mem_range] at hk ⊢
      exact h k hk.1 hk.2
  rw [List.length_map] at hm
  omega
theorem cnt_im {o x y : Int} {P Q R S : Nat → Int} {n : Nat} (h0 : 0 ≤ o) (h7 : o ≤ 7) (hv : ∀ i, i < n → rvB (P i) (Q i) (R i) (S i) = true) (hi : imV o x y P Q R S n = true) : cntF (imF o x y P Q R S n) 6400 = cntF (covF P Q R S n) 6400 := by
  have cell : ∀ k, k < 6400 → covF P Q R S n k = true → ∃ u v : Int, ((-40 ≤ u ∧ u ≤ 39) ∧ (-40 ≤ v ∧ v ≤ 39)) ∧ k = cIx u v ∧ covB P Q R S u v n = true := fun k hk hf => by
    obtain ⟨u, v, hc, rfl⟩ := cIx_of hk
    rw [covF_at _ _ _ _ _ hc.1.1 hc.1.2 hc.2.1 hc.2.2] at hf
    exact ⟨u, v, hc, rfl, hf⟩
  have back : ∀ k, k < 6400 → imF o x y P Q R S n k = true → ∃ u v : Int, k = cIx (cmX o x y u v) (cmY o x y u v) ∧ covB P Q R S u v n = true := fun k hk hf => by
    obtain ⟨p, q, hc, rfl⟩ := cIx_of hk
    obtain ⟨u, v, rfl, rfl⟩ := cm_ex (x := x) (y := y) h0 h7 p q
    refine ⟨u, v, rfl, ?_⟩
    rw [← imF_has h0 h7 hv hi u v, hasB_in hc]
    exact hf
  have on := fun u v => im_on (u := u) (v := v) h0 h7 hv hi
  have cov_on : ∀ u v, covB P Q R S u v n = true → (-40 ≤ u ∧ u ≤ 39) ∧ (-40 ≤ v ∧ v ≤ 39) := fun u v h => by
    by_cases hh : (-40 ≤ u ∧ u ≤ 39) ∧ (-40 ≤ v ∧ v ≤ 39)
    · exact hh
    · rw [covB_out hh hv] at h; cases h
  have g1 : ∀ k, ∃ k', k < 6400 → covF P Q R S n k = true → ∃ u v : Int, k = cIx u v ∧ k' = cIx (cmX o x y u v) (cmY o x y u v) ∧ covB P Q R S u v n = true := fun k => by
    by_cases h : k < 6400 ∧ covF P Q R S n k = true
    · obtain ⟨u, v, _, e, hc⟩ := cell k h.1 h.2
      exact ⟨_, fun _ _ => ⟨u, v, e, rfl, hc⟩⟩
    · exact ⟨0, fun a b => absurd ⟨a, b⟩ h⟩
  have g2 : ∀ k, ∃ k', k < 6400 → imF o x y P Q R S n k = true → ∃ u v : Int, k = cIx (cmX o x y u v) (cmY o x y u v) ∧ k' = cIx u v ∧ covB P Q R S u v n = true := fun k => by
    by_cases h : k < 6400 ∧ imF o x y P Q R S n k = true
    · obtain ⟨u, v, e, hc⟩ := back k h.1 h.2
      exact ⟨_, fun _ _ => ⟨u, v, e, rfl, hc⟩⟩
    · exact ⟨0, fun a b => absurd ⟨a, b⟩ h⟩
  obtain ⟨φ, hφ⟩ := Classical.axiomOfChoice g1
  obtain ⟨ψ, hψ⟩ := Classical.axiomOfChoice g2
  refine Int.le_antisymm (cnt_le ψ (fun k hk hf => ?_) fun a b ha hb fa fb e => ?_) (cnt_le φ (fun k hk hf => ?_) fun a b ha hb fa fb e => ?_)
  · obtain ⟨u, v, e1, e2, hc⟩ := hψ k hk hf
    have := cov_on u v hc
    rw [e2, covF_at _ _ _ _ _ this.1.1 this.1.2 this.2.1 this.2.2]
    exact ⟨cIx_lt this.1.1 this.1.2 this.2.1 this.2.2, hc⟩
  · obtain ⟨u, v, e1, e2, hc⟩ := hψ a ha fa
    obtain ⟨u', v', e1', e2', hc'⟩ := hψ b hb fb
    have c1 := cov_on u v hc
    have c2 := cov_on u' v' hc'
    rw [e2, e2'] at e
    obtain ⟨rfl, rfl⟩ := cIx_inj c1.1.1 c1.1.2 c1.2.1 c1.2.2 c2.1.1 c2.1.2 c2.2.1 c2.2.2 e
    rw [e1, e1']
  · obtain ⟨u, v, e1, e2, hc⟩ := hφ k hk hf
    have := on u v hc
    rw [e2]
    refine ⟨cIx_lt this.1.1 this.1.2 this.2.1 this.2.2, ?_⟩
    have h9 := hasB_in (f := imF o x y P Q R S n) this
    rw [imF_has h0 h7 hv hi u v, hc] at h9
    exact h9.symm
  · obtain ⟨u, v, e1, e2, hc⟩ := hφ a ha fa
    obtain ⟨u', v', e1', e2', hc'⟩ := hφ b hb fb
    have c1 := on u v hc
    have c2 := on u' v' hc'
    rw [e2, e2'] at e
    obtain ⟨hx, hy⟩ := cIx_inj c1.1.1 c1.1.2 c1.2.1 c1.2.2 c2.1.1 c2.1.2 c2.2.1 c2.2.2 e
    obtain ⟨rfl, rfl⟩ := cm_inj h0 h7 hx hy
    rw [e1, e1']

/-- What is moved is the union of two regions that can be moved. -/
theorem mg_union {o x y : Int} {la lb lu : List R4} {f g : Nat → Bool} (ha : la = canonL f) (hb : lb = canonL g) (hu : lu = canonL (fun k => tt 14 (f k) (g k)))
    (h1 : mgB o x y (pA la) (pB la) (pC la) (pD la) la.length = true) (h2 : mgB o x y (pA lb) (pB lb) (pC lb) (pD lb) lb.length = true) :
    mgB o x y (pA lu) (pB lu) (pC lu) (pD lu) lu.length = true ∧
    mgL o x y (pA lu) (pB lu) (pC lu) (pD lu) lu.length = canonL (fun k => tt 14 (imF o x y (pA la) (pB la) (pC la) (pD la) la.length k) (imF o x y (pA lb) (pB lb) (pC lb) (pD lb) lb.length k)) := by
  have hall : ∀ (h : Nat → Bool) i, i < (canonL h).length → rvB (pA (canonL h) i) (pB (canonL h) i) (pC (canonL h) i) (pD (canonL h) i) = true := canonL_valid_at
  have hcov : ∀ (h : Nat → Bool) u v, covB (pA (canonL h)) (pB (canonL h)) (pC (canonL h)) (pD (canonL h)) u v (canonL h).length = hasB h u v := fun h u v => by
    by_cases hh : (-40 ≤ u ∧ u ≤ 39) ∧ (-40 ≤ v ∧ v ≤ 39)
    · rw [covB_pA, inR_canonL h u v hh]
    · rw [covB_out hh (hall h), hasB_out hh]
  have hor : ∀ u v, hasB (fun k => tt 14 (f k) (g k)) u v = (hasB f u v || hasB g u v) := fun u v => by
    have e : ∀ a b : Bool, tt 14 a b = (a || b) := fun a b => by cases a <;> cases b <;> rfl
    show (inC u v && tt 14 (f (cIx u v)) (g (cIx u v))) = (inC u v && f (cIx u v) || inC u v && g (cIx u v))
    rw [e]
    cases inC u v <;> simp
  subst ha hb hu
  unfold mgB at h1 h2
  simp only [Bool.and_eq_true] at h1 h2
  obtain ⟨ht, -, i1⟩ := h1
  obtain ⟨-, -, i2⟩ := h2
  have ho := vldB_t ht
  have h0 : 0 ≤ o := by omega
  have h7 : o ≤ 7 := by omega
  have i3 : imV o x y (pA (canonL fun k => tt 14 (f k) (g k))) (pB (canonL fun k => tt 14 (f k) (g k))) (pC (canonL fun k => tt 14 (f k) (g k))) (pD (canonL fun k => tt 14 (f k) (g k))) (canonL fun k => tt 14 (f k) (g k)).length = true :=
    imV_mk h0 h7 (hall _) fun u v hc => by
      rw [hcov, hor, Bool.or_eq_true] at hc
      rcases hc with hc | hc
      · exact im_on h0 h7 (hall f) i1 (by rw [hcov]; exact hc)
      · exact im_on h0 h7 (hall g) i2 (by rw [hcov]; exact hc)
  have hB : mgB o x y (pA (canonL fun k => tt 14 (f k) (g k))) (pB (canonL fun k => tt 14 (f k) (g k))) (pC (canonL fun k => tt 14 (f k) (g k))) (pD (canonL fun k => tt 14 (f k) (g k))) (canonL fun k => tt 14 (f k) (g k)).length = true := by
    unfold mgB; rw [ht, okR_canonL, i3]; rfl
  refine ⟨hB, ?_⟩
  unfold mgL
  rw [if_pos hB]
  refine canonL_same fun p q p1 p2 q1 q2 => ?_
  obtain ⟨u, v, rfl, rfl⟩ := cm_ex (x := x) (y := y) h0 h7 p q
  have e : ∀ a b : Bool, tt 14 a b = (a || b) := fun a b => by cases a <;> cases b <;> rfl
  have e9 := hasB_in (f := fun k => tt 14 (imF o x y (pA (canonL f)) (pB (canonL f)) (pC (canonL f)) (pD (canonL f)) (canonL f).length k) (imF o x y (pA (canonL g)) (pB (canonL g)) (pC (canonL g)) (pD (canonL g)) (canonL g).length k)) (x := cmX o x y u v) (y := cmY o x y u v) ⟨⟨p1, p2⟩, ⟨q1, q2⟩⟩
  rw [e9, imF_has h0 h7 (hall _) i3, hcov, hor, e]
  have a1 := imF_has h0 h7 (hall f) i1 u v
  have a2 := imF_has h0 h7 (hall g) i2 u v
  rw [hcov, hasB_in ⟨⟨p1, p2⟩, ⟨q1, q2⟩⟩] at a1 a2
  rw [a1, a2]
theorem mg_canon {o x y : Int} {la : List R4} (h1 : mgB o x y (pA la) (pB la) (pC la) (pD la) la.length = true) : mgL o x y (pA la) (pB la) (pC la) (pD la) la.length = canonL (imF o x y (pA la) (pB la) (pC la) (pD la) la.length) := by
  unfold mgL; rw [if_pos h1]
theorem mg_area {o x y : Int} {la lp : List R4} {f : Nat → Bool} (ha : la = canonL f) (h1 : mgB o x y (pA la) (pB la) (pC la) (pD la) la.length = true) (hp : lp = mgL o x y (pA la) (pB la) (pC la) (pD la) la.length) : areaL lp = areaL la := by
  subst hp
  rw [mg_canon h1, area_canon]
  unfold mgB at h1
  simp only [Bool.and_eq_true] at h1
  have ho := vldB_t h1.1
  subst ha
  rw [cnt_im (by omega) (by omega) (canonL_valid_at f) h1.2.2, area_canon]
  exact cntF_congr 6400 fun k hk => cov_canonL_all f hk
end Go.Proofs.YtmabdemdapnmkaaGreatDoor
