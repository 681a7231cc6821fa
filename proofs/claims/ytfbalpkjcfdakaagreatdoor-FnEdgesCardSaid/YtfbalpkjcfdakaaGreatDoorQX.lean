/- Images of unit cells under transforms; the image of a union is the union of the images, the area of an image is the area. No program's run in it. -/
import Derived.Test.YtfbalpkjcfdakaaGreatDoorQS
import Derived.Test.YtfbalpkjcfdakaaGreatDoorQT
namespace Go.Proofs.YtfbalpkjcfdakaaGreatDoor
open Go.RowKit
set_option linter.unusedVariables false
set_option linter.unusedSimpArgs false

/-- The image of a unit cell. -/
def cmX (o x y u v : Int) : Int := mr0 o x y u v (u + 1) (v + 1)
def cmY (o x y u v : Int) : Int := mr1 o x y u v (u + 1) (v + 1)
theorem o_cases {o : Int} (h0 : 0 ≤ o) (h7 : o ≤ 7) : o = 0 ∨ o = 1 ∨ o = 2 ∨ o = 3 ∨ o = 4 ∨ o = 5 ∨ o = 6 ∨ o = 7 := by omega
theorem cm_cov {o x y a b c d u v : Int} (h0 : 0 ≤ o) (h7 : o ≤ 7) (h1 : a < c) (h2 : b < d) :
    (mr0 o x y a b c d ≤ cmX o x y u v ∧ cmX o x y u v < mr2 o x y a b c d ∧ mr1 o x y a b c d ≤ cmY o x y u v ∧ cmY o x y u v < mr3 o x y a b c d) ↔ (a ≤ u ∧ u < c ∧ b ≤ v ∧ v < d) := by
  rcases o_cases h0 h7 with rfl | rfl | rfl | rfl | rfl | rfl | rfl | rfl <;> simp only [cmX, cmY, mr0, mr1, mr2, mr3, mvX, mvY, tX, tY, lo2_min, hi2_max] <;> simp <;> omega
theorem cm_ex {o x y : Int} (h0 : 0 ≤ o) (h7 : o ≤ 7) (p q : Int) : ∃ u v, cmX o x y u v = p ∧ cmY o x y u v = q := by
  rcases o_cases h0 h7 with rfl | rfl | rfl | rfl | rfl | rfl | rfl | rfl
  · exact ⟨p - x, q - y, by simp only [cmX, cmY, mr0, mr1, mr2, mr3, mvX, mvY, tX, tY, lo2_min, hi2_max]; simp; omega⟩
  · exact ⟨q - y, x - 1 - p, by simp only [cmX, cmY, mr0, mr1, mr2, mr3, mvX, mvY, tX, tY, lo2_min, hi2_max]; simp; omega⟩
  · exact ⟨x - 1 - p, y - 1 - q, by simp only [cmX, cmY, mr0, mr1, mr2, mr3, mvX, mvY, tX, tY, lo2_min, hi2_max]; simp; omega⟩
  · exact ⟨y - 1 - q, p - x, by simp only [cmX, cmY, mr0, mr1, mr2, mr3, mvX, mvY, tX, tY, lo2_min, hi2_max]; simp; omega⟩
  · exact ⟨p - x, y - 1 - q, by simp only [cmX, cmY, mr0, mr1, mr2, mr3, mvX, mvY, tX, tY, lo2_min, hi2_max]; simp; omega⟩
  · exact ⟨q - y, p - x, by simp only [cmX, cmY, mr0, mr1, mr2, mr3, mvX, mvY, tX, tY, lo2_min, hi2_max]; simp; omega⟩
  · exact ⟨x - 1 - p, q - y, by simp only [cmX, cmY, mr0, mr1, mr2, mr3, mvX, mvY, tX, tY, lo2_min, hi2_max]; simp; omega⟩
  · exact ⟨y - 1 - q, x - 1 - p, by simp only [cmX, cmY, mr0, mr1, mr2, mr3, mvX, mvY, tX, tY, lo2_min, hi2_max]; simp; omega⟩
theorem mr_box {o x y a b c d : Int} (h0 : 0 ≤ o) (h7 : o ≤ 7) (h1 : a < c) (h2 : b < d) :
    mr0 o x y a b c d = min (cmX o x y a b) (cmX o x y (c - 1) (d - 1)) ∧ mr1 o x y a b c d = min (cmY o x y a b) (cmY o x y (c - 1) (d - 1)) ∧ mr2 o x y a b c d = max (cmX o x y a b) (cmX o x y (c - 1) (d - 1)) + 1 ∧ mr3 o x y a b c d = max (cmY o x y a b) (cmY o x y (c - 1) (d - 1)) + 1 := by
  rcases o_cases h0 h7 with rfl | rfl | rfl | rfl | rfl | rfl | rfl | rfl <;> simp only [cmX, cmY, mr0, mr1, mr2, mr3, mvX, mvY, tX, tY, lo2_min, hi2_max] <;> simp <;> omega
theorem cm_inj {o x y u v u' v' : Int} (h0 : 0 ≤ o) (h7 : o ≤ 7) (hx : cmX o x y u v = cmX o x y u' v') (hy : cmY o x y u v = cmY o x y u' v') : u = u' ∧ v = v' := by
  have h := (cm_cov (o := o) (x := x) (y := y) (a := u') (b := v') (c := u' + 1) (d := v' + 1) (u := u) (v := v) h0 h7 (by omega) (by omega)).1 (by
    have := (cm_cov (o := o) (x := x) (y := y) (a := u') (b := v') (c := u' + 1) (d := v' + 1) (u := u') (v := v') h0 h7 (by omega) (by omega)).2 (by omega)
    rw [hx, hy]; exact this)
  omega

theorem cov_im {o x y : Int} {P Q R S : Nat → Int} (h0 : 0 ≤ o) (h7 : o ≤ 7) (u v : Int) : ∀ n, (∀ i, i < n → rvB (P i) (Q i) (R i) (S i) = true) →
    covB (imA o x y P Q R S) (imB o x y P Q R S) (imC o x y P Q R S) (imD o x y P Q R S) (cmX o x y u v) (cmY o x y u v) n = covB P Q R S u v n
  | 0, _ => rfl
  | n + 1, hv => by
    have ih := cov_im (x := x) (y := y) h0 h7 u v n fun i hi => hv i (by omega)
    rw [covB, covB, ih]
    congr 1
    have v0 := rvB_t (hv n (by omega))
    have hc := cm_cov (o := o) (x := x) (y := y) (a := P n) (b := Q n) (c := R n) (d := S n) (u := u) (v := v) h0 h7 (by omega) (by omega)
    rw [Bool.eq_iff_iff]
    simp only [Bool.and_eq_true, decide_eq_true_eq]
    constructor
    · rintro ⟨⟨⟨g1, g2⟩, g3⟩, g4⟩
      have := hc.1 ⟨g1, g2, g3, g4⟩
      exact ⟨⟨⟨this.1, this.2.1⟩, this.2.2.1⟩, this.2.2.2⟩
    · rintro ⟨⟨⟨g1, g2⟩, g3⟩, g4⟩
      have := hc.2 ⟨g1, g2, g3, g4⟩
      exact ⟨⟨⟨this.1, this.2.1⟩, this.2.2.1⟩, this.2.2.2⟩
theorem imV_at {o x y : Int} {P Q R S : Nat → Int} {n i : Nat} (h : imV o x y P Q R S n = true) (hi : i < n) : rvB (imA o x y P Q R S i) (imB o x y P Q R S i) (imC o x y P Q R S i) (imD o x y P Q R S i) = true := allV_at h hi
theorem imF_has {o x y : Int} {P Q R S : Nat → Int} {n : Nat} (h0 : 0 ≤ o) (h7 : o ≤ 7) (hv : ∀ i, i < n → rvB (P i) (Q i) (R i) (S i) = true) (hi : imV o x y P Q R S n = true) (u v : Int) : hasB (imF o x y P Q R S n) (cmX o x y u v) (cmY o x y u v) = covB P Q R S u v n := by
  unfold imF
  rw [hasB_cov fun i h => imV_at hi h, cov_im h0 h7 u v n hv]
/-- The image of a covered cell is on the chip. -/
theorem im_on {o x y : Int} {P Q R S : Nat → Int} {n : Nat} (h0 : 0 ≤ o) (h7 : o ≤ 7) (hv : ∀ i, i < n → rvB (P i) (Q i) (R i) (S i) = true) (hi : imV o x y P Q R S n = true) {u v : Int} (hc : covB P Q R S u v n = true) : (-40 ≤ cmX o x y u v ∧ cmX o x y u v ≤ 39) ∧ (-40 ≤ cmY o x y u v ∧ cmY o x y u v ≤ 39) := by
  have h := imF_has h0 h7 hv hi u v
  rw [hc] at h
  unfold hasB at h
  simp only [Bool.and_eq_true] at h
  exact inC_t h.1
theorem imV_mk {o x y : Int} {P Q R S : Nat → Int} {n : Nat} (h0 : 0 ≤ o) (h7 : o ≤ 7) (hv : ∀ i, i < n → rvB (P i) (Q i) (R i) (S i) = true)
    (h : ∀ u v, covB P Q R S u v n = true → (-40 ≤ cmX o x y u v ∧ cmX o x y u v ≤ 39) ∧ (-40 ≤ cmY o x y u v ∧ cmY o x y u v ≤ 39)) : imV o x y P Q R S n = true :=
  allV_mk fun i hi => by
    have v0 := rvB_t (hv i hi)
    have hb := mr_box (o := o) (x := x) (y := y) (a := P i) (b := Q i) (c := R i) (d := S i) h0 h7 (by omega) (by omega)
    have c1 := h (P i) (Q i) (covB_t.2 ⟨i, hi, by omega⟩)
    have c2 := h (R i - 1) (S i - 1) (covB_t.2 ⟨i, hi, by omega⟩)
    have e0 : imA o x y P Q R S i = mr0 o x y (P i) (Q i) (R i) (S i) := rfl
    have e1 : imB o x y P Q R S i = mr1 o x y (P i) (Q i) (R i) (S i) := rfl
    have e2 : imC o x y P Q R S i = mr2 o x y (P i) (Q i) (R i) (S i) := rfl
    have e3 : imD o x y P Q R S i = mr3 o x y (P i) (Q i) (R i) (S i) := rfl
    rw [e0, e1, e2, e3, hb.1, hb.2.1, hb.2.2.1, hb.2.2.2]
    generalize cmX o x y (P i) (Q i) = a1 at *
    generalize cmX o x y (R i - 1) (S i - 1) = a2 at *
    generalize cmY o x y (P i) (Q i) = b1 at *
    generalize cmY o x y (R i - 1) (S i - 1) = b2 at *
    exact rvB_mk (by omega)

/-- Nothing repeated, all of it there: no longer. -/
theorem nodup_leN : ∀ (l m : List Nat), l.Nodup → (∀ x, x ∈ l → x ∈ m) → l.length ≤ m.length
  | [], m, _, _ => Nat.zero_le _
  | a :: l, m, hn, hs => by
    have ha := hs a (by simp)
    rw [List.nodup_cons] at hn
    have ih := nodup_leN l (m.erase a) hn.2 fun x hx => (List.mem_erase_of_ne (fun e => hn.1 (by rw [← e]; exact hx))).2 (hs x (by simp [hx]))
    rw [List.length_erase_of_mem ha] at ih
    have := List.length_pos_of_mem ha
    simp only [List.length_cons]
    omega
theorem cntF_filter (f : Nat → Bool) : ∀ n, cntF f n = (((List.range n).filter f).length : Nat)
  | 0 => rfl
  | n + 1 => by
    rw [List.range_succ, List.filter_append, List.length_append]
    have ih := cntF_filter f n
    unfold cntF
    rw [ih]
    cases h : f n <;> simp [h]
theorem map_nodup {φ : Nat → Nat} : ∀ l : List Nat, l.Nodup → (∀ a b, a ∈ l → b ∈ l → φ a = φ b → a = b) → (l.map φ).Nodup
  | [], _, _ => by simp
  | a :: l, hn, hi => by
    rw [List.nodup_cons] at hn
    rw [List.map_cons, List.nodup_cons]
    refine ⟨fun h => ?_, map_nodup l hn.2 fun b c hb hc => hi b c (by simp [hb]) (by simp [hc])⟩
    obtain ⟨b, hb, e⟩ := List.mem_map.1 h
    exact hn.1 (hi b a (by simp [hb]) (by simp) e ▸ hb)
theorem cnt_le {f g : Nat → Bool} {N : Nat} (φ : Nat → Nat) (h : ∀ k, k < N → f k = true → φ k < N ∧ g (φ k) = true) (hi : ∀ a b, a < N → b < N → f a = true → f b = true → φ a = φ b → a = b) : cntF f N ≤ cntF g N := by
  rw [cntF_filter, cntF_filter]
  have hm : (((List.range N).filter f).map φ).length ≤ ((List.range N).filter g).length := by
    refine nodup_leN _ _ (map_nodup _ ((List.Pairwise.filter _ List.nodup_range)) fun a b ha hb e => ?_) fun x hx => ?_
    · rw [List.mem_filter, List.mem_range] at ha hb
      exact hi a b ha.1 hb.1 ha.2 hb.2 e
    · obtain ⟨k, hk, rfl⟩ := List.mem_map.1 hx
      rw [List.mem_filter, List.mem_range] at hk ⊢
      exact h k hk.1 hk.2
  rw [List.length_map] at hm
  omega
theorem cnt_im {o x y : Int} {P Q R S : Nat → Int} {n : Nat} (h0 : 0 ≤ o) (h7 : o ≤ 7) (hv : ∀ i, i < n → rvB (P i) (Q i) (R i) (S i) = true) (hi : imV o x y P Q R S n = true) : cntF (imF o x y P Q R S n) 6400 = cntF (covF P Q R S n) 6400 := by
  have cell : ∀ k, k < 6400 → covF P Q R S n k = true → ∃ u v : Int, ((-40 ≤ u ∧ u ≤ 39) ∧ (-40 ≤ v ∧ v ≤ 39)) ∧ k = cIx u v ∧ covB P Q R S u v n = true := fun k hk hf => by
    obtain ⟨u, v, hc, rfl⟩ := cIx_of hk
    rw [covF_at _ _ _ _ _ hc.1.1 hc.1.2 hc.2.1 hc.2.2] at hf
    exact ⟨u, v, hc, rfl, hf⟩
  have back : ∀ k, k < 6400 → imF o x y P Q R S n k = true → ∃ u v : Int, k = cIx (cmX o x y u v) (cmY o x y u v) ∧ covB P Q R S u v n = true := fun k hk hf => by
    obtain ⟨p, q, hc, rfl⟩ := cIx_of hk
    obtain ⟨u, v, rfl, rfl⟩ := cm_ex (x := x) (y := y) h0 h7 p q
    refine ⟨u, v, rfl, ?_⟩
    rw [← imF_has h0 h7 hv hi u v, hasB_in hc]
    exact hf
  have on := fun u v => im_on (u := u) (v := v) h0 h7 hv hi
  have cov_on : ∀ u v, covB P Q R S u v n = true → (-40 ≤ u ∧ u ≤ 39) ∧ (-40 ≤ v ∧ v ≤ 39) := fun u v h => by
    by_cases hh : (-40 ≤ u ∧ u ≤ 39) ∧ (-40 ≤ v ∧ v ≤ 39)
    · exact hh
    · rw [covB_out hh hv] at h; cases h
  have g1 : ∀ k, ∃ k', k < 6400 → covF P Q R S n k = true → ∃ u v : Int, k = cIx u v ∧ k' = cIx (cmX o x y u v) (cmY o x y u v) ∧ covB P Q R S u v n = true := fun k => by
    by_cases h : k < 6400 ∧ covF P Q R S n k = true
    · obtain ⟨u, v, _, e, hc⟩ := cell k h.1 h.2
      exact ⟨_, fun _ _ => ⟨u, v, e, rfl, hc⟩⟩
    · exact ⟨0, fun a b => absurd ⟨a, b⟩ h⟩
  have g2 : ∀ k, ∃ k', k < 6400 → imF o x y P Q R S n k = true → ∃ u v : Int, k = cIx (cmX o x y u v) (cmY o x y u v) ∧ k' = cIx u v ∧ covB P Q R S u v n = true := fun k => by
    by_cases h : k < 6400 ∧ imF o x y P Q R S n k = true
    · obtain ⟨u, v, e, hc⟩ := back k h.1 h.2
      exact ⟨_, fun _ _ => ⟨u, v, e, rfl, hc⟩⟩
    · exact ⟨0, fun a b => absurd ⟨a, b⟩ h⟩
  obtain ⟨φ, hφ⟩ := Classical.axiomOfChoice g1
  obtain ⟨ψ, hψ⟩ := Classical.axiomOfChoice g2
  refine Int.le_antisymm (cnt_le ψ (fun k hk hf => ?_) fun a b ha hb fa fb e => ?_) (cnt_le φ (fun k hk hf => ?_) fun a b ha hb fa fb e => ?_)
  · obtain ⟨u, v, e1, e2, hc⟩ := hψ k hk hf
    have := cov_on u v hc
    rw [e2, covF_at _ _ _ _ _ this.1.1 this.1.2 this.2.1 this.2.2]
    exact ⟨cIx_lt this.1.1 this.1.2 this.2.1 this.2.2, hc⟩
  · obtain ⟨u, v, e1, e2, hc⟩ := hψ a ha fa
    obtain ⟨u', v', e1', e2', hc'⟩ := hψ b hb fb
    have c1 := cov_on u v hc
    have c2 := cov_on u' v' hc'
    rw [e2, e2'] at e
    obtain ⟨rfl, rfl⟩ := cIx_inj c1.1.1 c1.1.2 c1.2.1 c1.2.2 c2.1.1 c2.1.2 c2.2.1 c2.2.2 e
    rw [e1, e1']
  · obtain ⟨u, v, e1, e2, hc⟩ := hφ k hk hf
    have := on u v hc
    rw [e2]
    refine ⟨cIx_lt this.1.1 this.1.2 this.2.1 this.2.2, ?_⟩
    have h9 := hasB_in (f := imF o x y P Q R S n) this
    rw [imF_has h0 h7 hv hi u v, hc] at h9
    exact h9.symm
  · obtain ⟨u, v, e1, e2, hc⟩ := hφ a ha fa
    obtain ⟨u', v', e1', e2', hc'⟩ := hφ b hb fb
    have c1 := on u v hc
    have c2 := on u' v' hc'
    rw [e2, e2'] at e
    obtain ⟨hx, hy⟩ := cIx_inj c1.1.1 c1.1.2 c1.2.1 c1.2.2 c2.1.1 c2.1.2 c2.2.1 c2.2.2 e
    obtain ⟨rfl, rfl⟩ := cm_inj h0 h7 hx hy
    rw [e1, e1']

/-- What is moved is the union of two regions that can be moved. -/
theorem mg_union {o x y : Int} {la lb lu : List R4} {f g : Nat → Bool} (ha : la = canonL f) (hb : lb = canonL g) (hu : lu = canonL (fun k => tt 14 (f k) (g k)))
    (h1 : mgB o x y (pA la) (pB la) (pC la) (pD la) la.length = true) (h2 : mgB o x y (pA lb) (pB lb) (pC lb) (pD lb) lb.length = true) :
    mgB o x y (pA lu) (pB lu) (pC lu) (pD lu) lu.length = true ∧
    mgL o x y (pA lu) (pB lu) (pC lu) (pD lu) lu.length = canonL (fun k => tt 14 (imF o x y (pA la) (pB la) (pC la) (pD la) la.length k) (imF o x y (pA lb) (pB lb) (pC lb) (pD lb) lb.length k)) := by
  have hall : ∀ (h : Nat → Bool) i, i < (canonL h).length → rvB (pA (canonL h) i) (pB (canonL h) i) (pC (canonL h) i) (pD (canonL h) i) = true := canonL_valid_at
  have hcov : ∀ (h : Nat → Bool) u v, covB (pA (canonL h)) (pB (canonL h)) (pC (canonL h)) (pD (canonL h)) u v (canonL h).length = hasB h u v := fun h u v => by
    by_cases hh : (-40 ≤ u ∧ u ≤ 39) ∧ (-40 ≤ v ∧ v ≤ 39)
    · rw [covB_pA, inR_canonL h u v hh]
    · rw [covB_out hh (hall h), hasB_out hh]
  have hor : ∀ u v, hasB (fun k => tt 14 (f k) (g k)) u v = (hasB f u v || hasB g u v) := fun u v => by
    have e : ∀ a b : Bool, tt 14 a b = (a || b) := fun a b => by cases a <;> cases b <;> rfl
    show (inC u v && tt 14 (f (cIx u v)) (g (cIx u v))) = (inC u v && f (cIx u v) || inC u v && g (cIx u v))
    rw [e]
    cases inC u v <;> simp
  subst ha hb hu
  unfold mgB at h1 h2
  simp only [Bool.and_eq_true] at h1 h2
  obtain ⟨ht, -, i1⟩ := h1
  obtain ⟨-, -, i2⟩ := h2
  have ho := vldB_t ht
  have h0 : 0 ≤ o := by omega
  have h7 : o ≤ 7 := by omega
  have i3 : imV o x y (pA (canonL fun k => tt 14 (f k) (g k))) (pB (canonL fun k => tt 14 (f k) (g k))) (pC (canonL fun k => tt 14 (f k) (g k))) (pD (canonL fun k => tt 14 (f k) (g k))) (canonL fun k => tt 14 (f k) (g k)).length = true :=
    imV_mk h0 h7 (hall _) fun u v hc => by
      rw [hcov, hor, Bool.or_eq_true] at hc
      rcases hc with hc | hc
      · exact im_on h0 h7 (hall f) i1 (by rw [hcov]; exact hc)
      · exact im_on h0 h7 (hall g) i2 (by rw [hcov]; exact hc)
  have hB : mgB o x y (pA (canonL fun k => tt 14 (f k) (g k))) (pB (canonL fun k => tt 14 (f k) (g k))) (pC (canonL fun k => tt 14 (f k) (g k))) (pD (canonL fun k => tt 14 (f k) (g k))) (canonL fun k => tt 14 (f k) (g k)).length = true := by
    unfold mgB; rw [ht, okR_canonL, i3]; rfl
  refine ⟨hB, ?_⟩
  unfold mgL
  rw [if_pos hB]
  refine canonL_same fun p q p1 p2 q1 q2 => ?_
  obtain ⟨u, v, rfl, rfl⟩ := cm_ex (x := x) (y := y) h0 h7 p q
  have e : ∀ a b : Bool, tt 14 a b = (a || b) := fun a b => by cases a <;> cases b <;> rfl
  have e9 := hasB_in (f := fun k => tt 14 (imF o x y (pA (canonL f)) (pB (canonL f)) (pC (canonL f)) (pD (canonL f)) (canonL f).length k) (imF o x y (pA (canonL g)) (pB (canonL g)) (pC (canonL g)) (pD (canonL g)) (canonL g).length k)) (x := cmX o x y u v) (y := cmY o x y u v) ⟨⟨p1, p2⟩, ⟨q1, q2⟩⟩
  rw [e9, imF_has h0 h7 (hall _) i3, hcov, hor, e]
  have a1 := imF_has h0 h7 (hall f) i1 u v
  have a2 := imF_has h0 h7 (hall g) i2 u v
  rw [hcov, hasB_in ⟨⟨p1, p2⟩, ⟨q1, q2⟩⟩] at a1 a2
  rw [a1, a2]
theorem mg_canon {o x y : Int} {la : List R4} (h1 : mgB o x y (pA la) (pB la) (pC la) (pD la) la.length = true) : mgL o x y (pA la) (pB la) (pC la) (pD la) la.length = canonL (imF o x y (pA la) (pB la) (pC la) (pD la) la.length) := by
  unfold mgL; rw [if_pos h1]
theorem mg_area {o x y : Int} {la lp : List R4} {f : Nat → Bool} (ha : la = canonL f) (h1 : mgB o x y (pA la) (pB la) (pC la) (pD la) la.length = true) (hp : lp = mgL o x y (pA la) (pB la) (pC la) (pD la) la.length) : areaL lp = areaL la := by
  subst hp
  rw [mg_canon h1, area_canon]
  unfold mgB at h1
  simp only [Bool.and_eq_true] at h1
  have ho := vldB_t h1.1
  subst ha
  rw [cnt_im (by omega) (by omega) (canonL_valid_at f) h1.2.2, area_canon]
  exact cntF_congr 6400 fun k hk => cov_canonL_all f hk
end Go.Proofs.YtfbalpkjcfdakaaGreatDoor

namespace Go.Proofs.YtfbalpkjcfdakaaGreatDoor
open Go.RowKit Go.Shelf
set_option linter.unusedVariables false
set_option linter.unusedSimpArgs false

set_option maxRecDepth 100000 in
set_option maxHeartbeats 1000000 in
theorem moveRegionC_any (o x y : Int) (m : Option Addr) (n cap : Nat) (P Q R S : Nat → Int) (w : World) (hn : n ≤ 1048576) (hcap : n ≤ cap) (hD : EnvW w) (hM : Mats w) (hR : RectsIs w.heap.size w m n P Q R S) :
    Calls Tryz.prog 121 #[.agg #[.int .i64 o, .int .i64 x, .int .i64 y], .slice m n cap] w fun e w' => LOwn2C w.heap.size (mgL o x y P Q R S n) (mgB o x y P Q R S n) e w' ∧ Below w.heap.size w w' := by
  obtain ⟨i0, hi, hz0, hz1, hz2⟩ := info_parts Tryz.infoR
  have hms := hM.size
  have hmz := hM.ne
  cases hv : vldB o x y with
  | false =>
    have e0 : mgL o x y P Q R S n = [] ∧ mgB o x y P Q R S n = false := by
      have e : mgB o x y P Q R S n = false := by unfold mgB; rw [hv]; rfl
      exact ⟨by unfold mgL; rw [e]; rfl, e⟩
    rw [e0.1, e0.2]
    clear e0
    go_enter Tryz.func121, Tryz.ntmps121
    go_wp2_with fail
    go_call (implValid_any) as e w1 ⟨rfl, bw1⟩
    obtain ⟨sw1, zw1, cw1, fw1⟩ := bcell bw1
    try simp only [World.size_alloc, World.size_setCell, World.size_drew] at sw1
    try have lw1_w_0 : w.heap.size < w1.heap.size := by omega
    try have lw1_w_1 : w.heap.size + 1 < w1.heap.size := by omega
    try have lw1_w_2 : w.heap.size + 1 + 1 < w1.heap.size := by omega
    try have lw1_w_3 : w.heap.size + 1 + 1 + 1 < w1.heap.size := by omega
    try have lw1_w_4 : w.heap.size + 1 + 1 + 1 + 1 < w1.heap.size := by omega
    try have lw1_w_5 : w.heap.size + 1 + 1 + 1 + 1 + 1 < w1.heap.size := by omega
    try have lw1_w_6 : w.heap.size + 1 + 1 + 1 + 1 + 1 + 1 < w1.heap.size := by omega
    rw [hv]
    go_wp2_with fail
    exact bodyPost_ret (v := .tuple #[.slice none 0 0, .bool false]) (by simp [*, results, Tryz.results121, go_sem]) rfl ⟨⟨none, 0, rfl, Nat.le_refl _, .inl rfl⟩, by (repeat (first | (with_reducible exact Below.refl _ _) | (with_reducible refine Ext.drewN ?_ _) | (with_reducible refine Below.drew ?_) | (with_reducible refine Ext.alloc ?_ _) | (with_reducible refine Ext.setCell ?_ (by simp; try omega) _) | (with_reducible refine Ext.trans ?_ (by assumption)) | (with_reducible assumption) | exact Below.refl _ _))⟩
  | true =>
    cases hok : okR P Q R S n with
    | false =>
      have e0 : mgL o x y P Q R S n = [] ∧ mgB o x y P Q R S n = false := by
        have e : mgB o x y P Q R S n = false := by unfold mgB; rw [hok, Bool.false_and, Bool.and_false]
        exact ⟨by unfold mgL; rw [e]; rfl, e⟩
      rw [e0.1, e0.2]
      clear e0
      go_enter Tryz.func121, Tryz.ntmps121
      go_wp2_with fail
      go_call (implValid_any) as e w1 ⟨rfl, bw1⟩
      obtain ⟨sw1, zw1, cw1, fw1⟩ := bcell bw1
      try simp only [World.size_alloc, World.size_setCell, World.size_drew] at sw1
      try have lw1_w_0 : w.heap.size < w1.heap.size := by omega
      try have lw1_w_1 : w.heap.size + 1 < w1.heap.size := by omega
      try have lw1_w_2 : w.heap.size + 1 + 1 < w1.heap.size := by omega
      try have lw1_w_3 : w.heap.size + 1 + 1 + 1 < w1.heap.size := by omega
      try have lw1_w_4 : w.heap.size + 1 + 1 + 1 + 1 < w1.heap.size := by omega
      try have lw1_w_5 : w.heap.size + 1 + 1 + 1 + 1 + 1 < w1.heap.size := by omega
      try have lw1_w_6 : w.heap.size + 1 + 1 + 1 + 1 + 1 + 1 < w1.heap.size := by omega
      rw [hv]
      go_wp2_with fail
      go_call (isRegion_any m n cap P Q R S _ hn hcap (hD.ext (by (repeat (first | (with_reducible exact Below.refl _ _) | (with_reducible refine Ext.drewN ?_ _) | (with_reducible refine Below.drew ?_) | (with_reducible refine Ext.alloc ?_ _) | (with_reducible refine Ext.setCell ?_ (by simp; try omega) _) | (with_reducible refine Ext.trans ?_ (by assumption)) | (with_reducible assumption) | exact Below.refl _ _)))) (hR.ext (by (repeat (first | (with_reducible exact Below.refl _ _) | (with_reducible refine Ext.drewN ?_ _) | (with_reducible refine Below.drew ?_) | (with_reducible refine Ext.alloc ?_ _) | (with_reducible refine Ext.setCell ?_ (by simp; try omega) _) | (with_reducible refine Ext.trans ?_ (by assumption)) | (with_reducible assumption) | exact Below.refl _ _))))) as e w2 ⟨rfl, bw2⟩
      obtain ⟨sw2, zw2, cw2, fw2⟩ := bcell bw2
      try simp only [World.size_alloc, World.size_setCell, World.size_drew] at sw2
      try have lw2_w_0 : w.heap.size < w2.heap.size := by omega
      try have lw2_w_1 : w.heap.size + 1 < w2.heap.size := by omega
      try have lw2_w_2 : w.heap.size + 1 + 1 < w2.heap.size := by omega
      try have lw2_w_3 : w.heap.size + 1 + 1 + 1 < w2.heap.size := by omega
      try have lw2_w_4 : w.heap.size + 1 + 1 + 1 + 1 < w2.heap.size := by omega
      try have lw2_w_5 : w.heap.size + 1 + 1 + 1 + 1 + 1 < w2.heap.size := by omega
      try have lw2_w_6 : w.heap.size + 1 + 1 + 1 + 1 + 1 + 1 < w2.heap.size := by omega
      try have lw2_w1_0 : w1.heap.size < w2.heap.size := by omega
      try have lw2_w1_1 : w1.heap.size + 1 < w2.heap.size := by omega
      try have lw2_w1_2 : w1.heap.size + 1 + 1 < w2.heap.size := by omega
      try have lw2_w1_3 : w1.heap.size + 1 + 1 + 1 < w2.heap.size := by omega
      try have lw2_w1_4 : w1.heap.size + 1 + 1 + 1 + 1 < w2.heap.size := by omega
      try have lw2_w1_5 : w1.heap.size + 1 + 1 + 1 + 1 + 1 < w2.heap.size := by omega
      try have lw2_w1_6 : w1.heap.size + 1 + 1 + 1 + 1 + 1 + 1 < w2.heap.size := by omega
      rw [hok]
      go_wp2_with fail
      exact bodyPost_ret (v := .tuple #[.slice none 0 0, .bool false]) (by simp [*, results, Tryz.results121, go_sem]) rfl ⟨⟨none, 0, rfl, Nat.le_refl _, .inl rfl⟩, by (repeat (first | (with_reducible exact Below.refl _ _) | (with_reducible refine Ext.drewN ?_ _) | (with_reducible refine Below.drew ?_) | (with_reducible refine Ext.alloc ?_ _) | (with_reducible refine Ext.setCell ?_ (by simp; try omega) _) | (with_reducible refine Ext.trans ?_ (by assumption)) | (with_reducible assumption) | exact Below.refl _ _))⟩
    | true =>
      have hlen : n ≤ 3200 := okR_len hok
      have HALL := Lib.hid (okR_all hok)
      have HV := Lib.hid hv
      have HMG := Lib.hid fun b => mgL_of (o := o) (x := x) (y := y) (P := P) (Q := Q) (R := R) (S := S) (n := n) (b := b) hv hok
      go_enter Tryz.func121, Tryz.ntmps121
      go_wp2_with fail
      go_call (implValid_any) as e w1 ⟨rfl, bw1⟩
      obtain ⟨sw1, zw1, cw1, fw1⟩ := bcell bw1
      try simp only [World.size_alloc, World.size_setCell, World.size_drew] at sw1
      try have lw1_w_0 : w.heap.size < w1.heap.size := by omega
      try have lw1_w_1 : w.heap.size + 1 < w1.heap.size := by omega
      try have lw1_w_2 : w.heap.size + 1 + 1 < w1.heap.size := by omega
      try have lw1_w_3 : w.heap.size + 1 + 1 + 1 < w1.heap.size := by omega
      try have lw1_w_4 : w.heap.size + 1 + 1 + 1 + 1 < w1.heap.size := by omega
      try have lw1_w_5 : w.heap.size + 1 + 1 + 1 + 1 + 1 < w1.heap.size := by omega
      try have lw1_w_6 : w.heap.size + 1 + 1 + 1 + 1 + 1 + 1 < w1.heap.size := by omega
      rw [hv]
      go_wp2_with fail
      go_call (isRegion_any m n cap P Q R S _ hn hcap (hD.ext (by (repeat (first | (with_reducible exact Below.refl _ _) | (with_reducible refine Ext.drewN ?_ _) | (with_reducible refine Below.drew ?_) | (with_reducible refine Ext.alloc ?_ _) | (with_reducible refine Ext.setCell ?_ (by simp; try omega) _) | (with_reducible refine Ext.trans ?_ (by assumption)) | (with_reducible assumption) | exact Below.refl _ _)))) (hR.ext (by (repeat (first | (with_reducible exact Below.refl _ _) | (with_reducible refine Ext.drewN ?_ _) | (with_reducible refine Below.drew ?_) | (with_reducible refine Ext.alloc ?_ _) | (with_reducible refine Ext.setCell ?_ (by simp; try omega) _) | (with_reducible refine Ext.trans ?_ (by assumption)) | (with_reducible assumption) | exact Below.refl _ _))))) as e w2 ⟨rfl, bw2⟩
      obtain ⟨sw2, zw2, cw2, fw2⟩ := bcell bw2
      try simp only [World.size_alloc, World.size_setCell, World.size_drew] at sw2
      try have lw2_w_0 : w.heap.size < w2.heap.size := by omega
      try have lw2_w_1 : w.heap.size + 1 < w2.heap.size := by omega
      try have lw2_w_2 : w.heap.size + 1 + 1 < w2.heap.size := by omega
      try have lw2_w_3 : w.heap.size + 1 + 1 + 1 < w2.heap.size := by omega
      try have lw2_w_4 : w.heap.size + 1 + 1 + 1 + 1 < w2.heap.size := by omega
      try have lw2_w_5 : w.heap.size + 1 + 1 + 1 + 1 + 1 < w2.heap.size := by omega
      try have lw2_w_6 : w.heap.size + 1 + 1 + 1 + 1 + 1 + 1 < w2.heap.size := by omega
      try have lw2_w1_0 : w1.heap.size < w2.heap.size := by omega
      try have lw2_w1_1 : w1.heap.size + 1 < w2.heap.size := by omega
      try have lw2_w1_2 : w1.heap.size + 1 + 1 < w2.heap.size := by omega
      try have lw2_w1_3 : w1.heap.size + 1 + 1 + 1 < w2.heap.size := by omega
      try have lw2_w1_4 : w1.heap.size + 1 + 1 + 1 + 1 < w2.heap.size := by omega
      try have lw2_w1_5 : w1.heap.size + 1 + 1 + 1 + 1 + 1 < w2.heap.size := by omega
      try have lw2_w1_6 : w1.heap.size + 1 + 1 + 1 + 1 + 1 + 1 < w2.heap.size := by omega
      rw [hok]
      go_wp2_with fail
      have BX0 : Hid (BoxT w2 w.heap.size o x y) := Lib.hid ⟨keepC bw2 (keepC bw1 (by simp [go_sem])), keepC bw2 (keepC bw1 (by simp [go_sem])), keepC bw2 (keepC bw1 (by simp [go_sem]))⟩
      have B2 : Below w.heap.size w w2 := by (repeat (first | (with_reducible exact Below.refl _ _) | (with_reducible refine Ext.drewN ?_ _) | (with_reducible refine Below.drew ?_) | (with_reducible refine Ext.alloc ?_ _) | (with_reducible refine Ext.setCell ?_ (by simp; try omega) _) | (with_reducible refine Ext.trans ?_ (by assumption)) | (with_reducible assumption) | exact Below.refl _ _))
      have l2 : w.heap.size < w2.heap.size := by have h8 := bw1.size; have h9 := bw2.size; simp at h8; omega
      clear bw1 bw2 zw1 cw1 fw1 zw2 cw2 fw2
      go_loopw [6, 21] (fun v s9 wr => ∃ i : Nat, i ≤ n ∧ s9 = .int .i64 (i : Nat) ∧ Hid (wr.ownsRow (w.heap.size + 1) 65 4 v (imL o x y P Q R S i).length (recCells (imL o x y P Q R S i))) ∧ Below w.heap.size w wr ∧ w.heap.size < wr.heap.size ∧ Hid (BoxT wr w.heap.size o x y) ∧ Hid (imV o x y P Q R S i = true)) (fun _ s9 _ => n - (intOf s9).toNat)
      case atStart => exact ⟨0, by omega, rfl, Lib.hid (World.ownsRow_nil _ _ _ _), B2, l2, BX0, Lib.hid rfl⟩
      case round =>
        obtain ⟨i, hil, rfl, HO, hW, hsz, HBX, HA⟩ := hrel
        rename_i v5 _
        by_cases hlt : i < n
        · obtain ⟨b1, o1, rfl, hb1, c0, c1, c2, c3⟩ := hR.below hW i hlt
          have q1 : ((i : Nat) : Int) < (n : Int) := by omega
          have q0 : (0 : Int) ≤ ((i : Nat) : Int) := by omega
          obtain ⟨x0, x1, x2⟩ := HBX.out
          have hll := imL_len o x y P Q R S i
          cases hvm : rvB (mr0 o x y (P i) (Q i) (R i) (S i)) (mr1 o x y (P i) (Q i) (R i) (S i)) (mr2 o x y (P i) (Q i) (R i) (S i)) (mr3 o x y (P i) (Q i) (R i) (S i)) with
          | false =>
            have HN := Lib.hid (HMG.out false (imV_f hlt hvm))
            have HIX := Lib.hid (mvV_at_no hvm)
            clear hvm
            go_wp2_with (first | (go_at_call 149; refine (implMoveRect_any _ _ _ _ _ _ _ _ (hD.chip.ext (by (repeat (first | (with_reducible exact Below.refl _ _) | (with_reducible refine Ext.drewN ?_ _) | (with_reducible refine Below.drew ?_) | (with_reducible refine Ext.alloc ?_ _) | (with_reducible refine Ext.setCell ?_ (by simp; try omega) _) | (with_reducible refine Ext.trans ?_ (by assumption)) | (with_reducible assumption) | exact Below.refl _ _)))) (hM.below (by (repeat (first | (with_reducible exact Below.refl _ _) | (with_reducible refine Ext.drewN ?_ _) | (with_reducible refine Below.drew ?_) | (with_reducible refine Ext.alloc ?_ _) | (with_reducible refine Ext.setCell ?_ (by simp; try omega) _) | (with_reducible refine Ext.trans ?_ (by assumption)) | (with_reducible assumption) | exact Below.refl _ _))) hms)).mono ?_; rintro e v1 ⟨rfl, bv1⟩; rw [HIX.out]))
            have bq : Below wr.heap.size wr v1 := by (repeat (first | (with_reducible exact Below.refl _ _) | (with_reducible refine Ext.drewN ?_ _) | (with_reducible refine Below.drew ?_) | (with_reducible refine Ext.alloc ?_ _) | (with_reducible refine Ext.setCell ?_ (by simp; try omega) _) | (with_reducible refine Ext.trans ?_ (by assumption)) | (with_reducible assumption) | exact Below.refl _ _))
            have bq2 := bq.alloc bq.size (.cells #[.int .i64 0, .int .i64 0, .int .i64 0, .int .i64 0] 65)
            exact bodyPost_ret (v := .tuple #[.slice none 0 0, .bool false]) (by simp [results, Tryz.results121, go_sem]) rfl ⟨⟨none, 0, by rw [HN.out.1, HN.out.2]; rfl, by rw [HN.out.2]; exact Nat.le_refl _, .inl (by rw [HN.out.2]; rfl)⟩, hW.trans (bq2.mono (by omega))⟩
          | true =>
            have HS := Lib.hid (imL_succ o x y P Q R S i)
            have HIX := Lib.hid (mvV_at_yes HV.out (HALL.out i hlt) hvm)
            have HA1 : Hid (imV o x y P Q R S (i + 1) = true) := Lib.hid (by unfold imV; rw [allV_succ]; exact Bool.and_eq_true_iff.2 ⟨HA.out, hvm⟩)
            clear hvm HA
            revert HS HIX
            generalize mr0 o x y (P i) (Q i) (R i) (S i) = v0
            generalize mr1 o x y (P i) (Q i) (R i) (S i) = v1
            generalize mr2 o x y (P i) (Q i) (R i) (S i) = v2
            generalize mr3 o x y (P i) (Q i) (R i) (S i) = v3
            intro HS HIX
            go_upto_region 10 with (first | (go_at_call 149; refine (implMoveRect_any _ _ _ _ _ _ _ _ (hD.chip.ext (by (repeat (first | (with_reducible exact Below.refl _ _) | (with_reducible refine Ext.drewN ?_ _) | (with_reducible refine Below.drew ?_) | (with_reducible refine Ext.alloc ?_ _) | (with_reducible refine Ext.setCell ?_ (by simp; try omega) _) | (with_reducible refine Ext.trans ?_ (by assumption)) | (with_reducible assumption) | exact Below.refl _ _)))) (hM.below (by (repeat (first | (with_reducible exact Below.refl _ _) | (with_reducible refine Ext.drewN ?_ _) | (with_reducible refine Below.drew ?_) | (with_reducible refine Ext.alloc ?_ _) | (with_reducible refine Ext.setCell ?_ (by simp; try omega) _) | (with_reducible refine Ext.trans ?_ (by assumption)) | (with_reducible assumption) | exact Below.refl _ _))) hms)).mono ?_; rintro e u1 ⟨rfl, bu1⟩; rw [HIX.out]))
            have bq : Below wr.heap.size wr u1 := by (repeat (first | (with_reducible exact Below.refl _ _) | (with_reducible refine Ext.drewN ?_ _) | (with_reducible refine Below.drew ?_) | (with_reducible refine Ext.alloc ?_ _) | (with_reducible refine Ext.setCell ?_ (by simp; try omega) _) | (with_reducible refine Ext.trans ?_ (by assumption)) | (with_reducible assumption) | exact Below.refl _ _))
            obtain ⟨wz, hwz⟩ : ∃ wz, wz = u1.alloc (.cells #[.int .i64 v0, .int .i64 v1, .int .i64 v2, .int .i64 v3] 65) := ⟨_, rfl⟩
            have bz : Below wr.heap.size wr wz := by rw [hwz]; exact bq.alloc bq.size _
            have m0 : wz.cell? ⟨u1.heap.size, 0, none⟩ = some (.int .i64 v0) := by rw [hwz]; simp [go_sem]
            have m1 : wz.cell? ⟨u1.heap.size, 1, none⟩ = some (.int .i64 v1) := by rw [hwz]; simp [go_sem]
            have m2 : wz.cell? ⟨u1.heap.size, 2, none⟩ = some (.int .i64 v2) := by rw [hwz]; simp [go_sem]
            have m3 : wz.cell? ⟨u1.heap.size, 3, none⟩ = some (.int .i64 v3) := by rw [hwz]; simp [go_sem]
            have O2 := Lib.hid (own_keep HO.out bz)
            have X2 := Lib.hid (HBX.out.keep bz hsz)
            have sz := bz.size
            rw [← hwz]
            clear hwz bq bu1 HO HBX x0 x1 x2 c0 c1 c2 c3
            go_wp2_with (at_builtin; refine wpList_append_own _ rfl _ _ 26 rfl (w.heap.size + 1) 65 i0 (.agg #[.int .i64 0, .int .i64 0, .int .i64 0, .int .i64 0]) 4 32 Tryz.underlying26 hi hz0 hz1 hz2 rfl (by decide) _ _ _ rfl (O2.out.alloc _) ⟨wz.heap.size, 0, none⟩ 1 1 [.int .i64 v0, .int .i64 v1, .int .i64 v2, .int .i64 v3] rfl rfl (World.news_of_block (cs := #[.int .i64 v0, .int .i64 v1, .int .i64 v2, .int .i64 v3]) (t := 65) (fr := (0, 0)) (heap_alloc_new wz _)) (by simp [Value.oneCell']) (by unfold maxLen; omega) (by omega) (by simp; omega) ?_; intro v' w4 hown4 hgrow hnil)
            have Bx : Below (w.heap.size + 1) wz w4 := ((Below.refl (w.heap.size + 1) wz).alloc (by omega) _).grown hgrow (by simp; omega) (fun k hk => (O2.out.lt k hk).1)
            have sx := Bx.size
            have O4 : Hid (w4.ownsRow (w.heap.size + 1) 65 4 v' (imL o x y P Q R S (i + 1)).length (recCells (imL o x y P Q R S (i + 1)))) := Lib.hid (by rw [HS.out, List.length_append, recCells_snoc]; exact hown4)
            clear hown4 hgrow hnil
            go_roundw
            case rel => exact ⟨i + 1, by omega, by go_num, O4, hW.trans ((bz.mono (by omega)).trans (Bx.mono (by omega))), by omega, Lib.hid (X2.out.keep Bx (by omega)), HA1⟩
            case measure => simp [intOf]; omega
        · have q1 : ¬ ((i : Nat) : Int) < (n : Int) := by omega
          obtain rfl : n = i := by omega
          have hl9 := imL_len o x y P Q R S n
          have HRO := ro_img hlen HA.out (HMG.out true HA.out)
          obtain ⟨l, hl⟩ : ∃ l, l = imL o x y P Q R S n := ⟨_, rfl⟩
          rw [← hl] at HO hl9 HRO
          have HRO := Lib.hid HRO
          obtain ⟨a9, c9, rfl, h9⟩ := ownsL_own HO.out
          have R9 := Lib.hid h9.rects
          have hc9 : Hid (l.length ≤ c9) := Lib.hid (own_cap' HO.out)
          have hl10 : l.length ≤ 1048576 := by omega
          clear h9 HO hl hl9
          go_wp2_with (first | (go_at_call 150; refine (regionOfC_any a9 l.length c9 (pA l) (pB l) (pC l) (pD l) _ hl10 hc9.out (hD.ext hW) R9.out).mono ?_; rintro e w5 ⟨⟨a5, c5, rfl, k5, h5⟩, bw5⟩; rw [HRO.out.1] at k5 h5 ⊢; rw [HRO.out.2]; have H5 := Lib.hid h5; clear h5))
          exact bodyPost_ret (v := .tuple #[.slice a5 (mgL o x y P Q R S n).length c5, .bool (mgB o x y P Q R S n)]) (by simp [results, Tryz.results121, go_sem]) rfl ⟨⟨a5, c5, rfl, k5, H5.out.mono hW.size⟩, Ext.trans hW bw5⟩
end Go.Proofs.YtfbalpkjcfdakaaGreatDoor
