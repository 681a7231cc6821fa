/- Connected parts of a region by its rectangles. No program's run in it. -/
import Derived.Test.YtepfnnhmplaocaaDoorCpA
import Derived.Test.YtepfnnhmplaocaaDoorQD
namespace Go.Proofs.YtepfnnhmplaocaaDoor
open Go.RowKit
set_option linter.unusedVariables false
set_option linter.unusedSimpArgs false

/-- Rectangle i holds the cell. -/
def inI (P Q R S : Nat → Int) (i : Nat) (x y : Int) : Prop := P i ≤ x ∧ x < R i ∧ Q i ≤ y ∧ y < S i
/-- Rectangles i and j have at least c columns in common and j begins no higher than i ends. -/
def eJ (P Q R S : Nat → Int) (c : Int) (i j : Nat) : Prop := Q j ≤ S i ∧ c ≤ min (R i) (R j) - max (P i) (P j)
/-- The columns that parts by sides, or by corners too, have in common. -/
def colW (wide : Bool) : Int := if wide = true then 0 else 1
theorem inI_has {P Q R S : Nat → Int} {n : Nat} (h : okR P Q R S n = true) {i : Nat} (hi : i < n) {x y : Int} (hc : inI P Q R S i x y) : hasB (covF P Q R S n) x y = true := by
  rw [hasB_cov (okR_all h), covB_t]
  exact ⟨i, hi, hc⟩
theorem has_inI {P Q R S : Nat → Int} {n : Nat} (h : okR P Q R S n = true) {x y : Int} (hc : hasB (covF P Q R S n) x y = true) : ∃ i, i < n ∧ inI P Q R S i x y := by
  rw [hasB_cov (okR_all h), covB_t] at hc
  exact hc
theorem corner_in {P Q R S : Nat → Int} {n : Nat} (h : okR P Q R S n = true) {i : Nat} (hi : i < n) : inI P Q R S i (P i) (Q i) := by
  obtain ⟨h1, h2, h3, h4, h5, h6⟩ := rvB_t (okR_all h i hi)
  exact ⟨by omega, by omega, by omega, by omega⟩
/-- Two rectangles that hold neighbours are the same or have columns in common. -/
theorem near_inI {P Q R S : Nat → Int} {n : Nat} (h : okR P Q R S n = true) {wide : Bool} {i j : Nat} (hi : i < n) (hj : j < n) {x y u v : Int} (hx : inI P Q R S i x y) (hu : inI P Q R S j u v) (ha : adjC wide x y u v) :
    i = j ∨ (i < j ∧ eJ P Q R S (colW wide) i j) ∨ (j < i ∧ eJ P Q R S (colW wide) j i) := by
  obtain ⟨x1, x2, x3, x4⟩ := hx
  obtain ⟨u1, u2, u3, u4⟩ := hu
  obtain ⟨a1, a2, a3⟩ := ha
  have hw : (wide = true ∧ colW wide = 0) ∨ ((u = x ∨ v = y) ∧ (colW wide = 0 ∨ colW wide = 1)) := by
    cases wide with
    | true => exact .inl ⟨rfl, rfl⟩
    | false => rcases a3 with a3 | a3; (cases a3); exact .inr ⟨a3, .inr rfl⟩
  rcases Nat.lt_trichotomy i j with e | e | e
  · right; left
    refine ⟨e, ?_⟩
    unfold eJ
    rcases okR_ord h e hj with ⟨o1, o2, o3⟩ | o
    · exfalso; omega
    · refine ⟨by omega, ?_⟩
      rcases hw with ⟨_, hw⟩ | ⟨hw1, hw2⟩
      · rw [hw]; omega
      · have hux : u = x := by omega
        omega
  · exact .inl e
  · right; right
    refine ⟨e, ?_⟩
    unfold eJ
    rcases okR_ord h e hi with ⟨o1, o2, o3⟩ | o
    · exfalso; omega
    · refine ⟨by omega, ?_⟩
      rcases hw with ⟨_, hw⟩ | ⟨hw1, hw2⟩
      · rw [hw]; omega
      · have hux : u = x := by omega
        omega
/-- The cells of a rectangle are connected. -/
theorem conn_in {P Q R S : Nat → Int} {n : Nat} (h : okR P Q R S n = true) {wide : Bool} {i : Nat} (hi : i < n) {x y : Int} (hc : inI P Q R S i x y) : Conn (covF P Q R S n) wide (P i) (Q i) x y := by
  have row : ∀ m : Nat, P i + (m : Int) < R i → Conn (covF P Q R S n) wide (P i) (Q i) (P i + (m : Int)) (Q i) := by
    intro m
    induction m with
    | zero =>
      intro _
      rw [show P i + ((0 : Nat) : Int) = P i by omega]
      exact .start (inI_has h hi (corner_in h hi))
    | succ m ih =>
      intro hm
      have hcr := corner_in h hi
      obtain ⟨c1, c2, c3, c4⟩ := hcr
      exact .step (ih (by omega)) ⟨by omega, by omega, .inr (.inr rfl)⟩ (inI_has h hi ⟨by omega, by omega, c3, c4⟩)
  have col : ∀ m : Nat, ∀ x, P i ≤ x → x < R i → Q i + (m : Int) < S i → Conn (covF P Q R S n) wide (P i) (Q i) x (Q i + (m : Int)) := by
    intro m
    induction m with
    | zero =>
      intro x h1 h2 _
      rw [show Q i + ((0 : Nat) : Int) = Q i by omega]
      have := row (x - P i).toNat (by omega)
      rwa [show P i + (((x - P i).toNat : Nat) : Int) = x by omega] at this
    | succ m ih =>
      intro x h1 h2 hm
      exact .step (ih x h1 h2 (by omega)) ⟨by omega, by omega, .inr (.inl rfl)⟩ (inI_has h hi ⟨h1, h2, by omega, hm⟩)
  obtain ⟨c1, c2, c3, c4⟩ := hc
  have := col (y - Q i).toNat x c1 c2 (by omega)
  rwa [show Q i + (((y - Q i).toNat : Nat) : Int) = y by omega] at this
/-- Two rectangles with columns in common are connected. -/
theorem eJ_conn {P Q R S : Nat → Int} {n : Nat} (h : okR P Q R S n = true) {wide : Bool} {i j : Nat} (hij : i < j) (hj : j < n) (he : eJ P Q R S (colW wide) i j) : Conn (covF P Q R S n) wide (P i) (Q i) (P j) (Q j) := by
  have hi : i < n := by omega
  obtain ⟨e1, e2⟩ := he
  obtain ⟨i1, i2, i3, i4, i5, i6⟩ := rvB_t (okR_all h i hi)
  obtain ⟨j1, j2, j3, j4, j5, j6⟩ := rvB_t (okR_all h j hj)
  have hc : 0 ≤ colW wide := by unfold colW; split <;> omega
  have hS : S i = Q j := by
    rcases okR_ord h hij hj with ⟨o1, o2, o3⟩ | o
    · exfalso; omega
    · omega
  have fin : ∀ a b : Int, inI P Q R S i a (S i - 1) → inI P Q R S j b (Q j) → adjC wide a (S i - 1) b (Q j) → Conn (covF P Q R S n) wide (P i) (Q i) (P j) (Q j) := fun a b ha hb hab =>
    (Conn.step (conn_in h hi ha) hab (inI_has h hj hb)).trans (conn_in h hj hb).symm
  by_cases hm : 1 ≤ min (R i) (R j) - max (P i) (P j)
  · exact fin (max (P i) (P j)) (max (P i) (P j)) ⟨by omega, by omega, by omega, by omega⟩ ⟨by omega, by omega, by omega, by omega⟩ ⟨by omega, by omega, .inr (.inl rfl)⟩
  · have hw : wide = true := by
      cases wide with
      | true => rfl
      | false => exact absurd e2 (by show ¬ ((1 : Int) ≤ _); exact hm)
    by_cases hr : R i = P j
    · exact fin (R i - 1) (P j) ⟨by omega, by omega, by omega, by omega⟩ ⟨by omega, by omega, by omega, by omega⟩ ⟨by omega, by omega, .inl hw⟩
    · exact fin (P i) (R j - 1) ⟨by omega, by omega, by omega, by omega⟩ ⟨by omega, by omega, by omega, by omega⟩ ⟨by omega, by omega, .inl hw⟩
/-- The classes of the rectangles are their connected parts. -/
structure RootsOK (P Q R S : Nat → Int) (n : Nat) (wide : Bool) (K : Nat → Nat) : Prop where
  snd : ∀ i j, i < n → j < n → K i = K j → Conn (covF P Q R S n) wide (P i) (Q i) (P j) (Q j)
  cmp : ∀ i j, i < j → j < n → eJ P Q R S (colW wide) i j → K i = K j
theorem RootsOK.all {P Q R S : Nat → Int} {n : Nat} {wide : Bool} {K : Nat → Nat} (hK : RootsOK P Q R S n wide K) (h : okR P Q R S n = true) {i j : Nat} (hi : i < n) (hj : j < n) {x y u v : Int} (hx : inI P Q R S i x y) (hu : inI P Q R S j u v) :
    K i = K j ↔ Conn (covF P Q R S n) wide x y u v := by
  constructor
  · intro e
    exact ((conn_in h hi hx).symm.trans (hK.snd i j hi hj e)).trans (conn_in h hj hu)
  · intro c
    have key : ∀ u v : Int, Conn (covF P Q R S n) wide x y u v → ∀ j, j < n → inI P Q R S j u v → K i = K j := by
      intro u v c
      induction c with
      | start _ =>
        intro j hj hu
        rcases near_inI (wide := wide) h hi hj hx hu ⟨by omega, by omega, .inr (.inl rfl)⟩ with e | ⟨e1, e2⟩ | ⟨e1, e2⟩
        · rw [e]
        · exact hK.cmp i j e1 hj e2
        · exact (hK.cmp j i e1 hi e2).symm
      | @step a b p q c a1 a2 ih =>
        intro j hj hu
        obtain ⟨k, hk, hab⟩ := has_inI h c.right
        rw [ih k hk hab]
        rcases near_inI h hk hj hab hu a1 with e | ⟨e1, e2⟩ | ⟨e1, e2⟩
        · rw [e]
        · exact hK.cmp k j e1 hj e2
        · exact (hK.cmp j k e1 hk e2).symm
    exact key u v c j hj hu
/-- Rectangle i is the first one of its class. -/
def isFst (K : Nat → Nat) (i : Nat) : Bool := (List.range i).all fun j => decide (K j ≠ K i)
theorem isFst_t {K : Nat → Nat} {i : Nat} : isFst K i = true ↔ ∀ j, j < i → K j ≠ K i := by
  unfold isFst; rw [List.all_eq_true]
  simp [List.mem_range]
/-- The first rectangles of the classes among the first m ones. -/
def fstsTo (K : Nat → Nat) : Nat → List Nat
  | 0 => []
  | m + 1 => if isFst K m = true then fstsTo K m ++ [m] else fstsTo K m
theorem fstsTo_mem {K : Nat → Nat} {i : Nat} : ∀ {m : Nat}, i ∈ fstsTo K m ↔ i < m ∧ isFst K i = true
  | 0 => by simp [fstsTo]
  | m + 1 => by
    rw [fstsTo]
    split
    · rename_i hf
      rw [List.mem_append, fstsTo_mem, List.mem_singleton]
      constructor
      · rintro (⟨h1, h2⟩ | h)
        · exact ⟨by omega, h2⟩
        · rw [h]; exact ⟨by omega, hf⟩
      · rintro ⟨h1, h2⟩
        by_cases e : i = m
        · exact .inr e
        · exact .inl ⟨by omega, h2⟩
    · rename_i hf
      rw [fstsTo_mem]
      constructor
      · rintro ⟨h1, h2⟩; exact ⟨by omega, h2⟩
      · rintro ⟨h1, h2⟩
        by_cases e : i = m
        · subst e; exact absurd h2 hf
        · exact ⟨by omega, h2⟩
theorem fstsTo_inc {K : Nat → Nat} : ∀ {m : Nat}, (fstsTo K m).Pairwise (· < ·)
  | 0 => by simp [fstsTo]
  | m + 1 => by
    rw [fstsTo]
    split
    · rw [List.pairwise_append]
      refine ⟨fstsTo_inc, by simp, fun s hs t ht => ?_⟩
      obtain rfl := List.mem_singleton.1 ht
      exact (fstsTo_mem.1 hs).1
    · exact fstsTo_inc
theorem fstsTo_len (K : Nat → Nat) : ∀ m, (fstsTo K m).length ≤ m
  | 0 => Nat.le_refl _
  | m + 1 => by
    have := fstsTo_len K m
    rw [fstsTo]; split
    · rw [List.length_append]; simp; omega
    · omega
/-- Every class has a first rectangle. -/
theorem fst_ex (K : Nat → Nat) : ∀ i : Nat, ∃ j, j ≤ i ∧ isFst K j = true ∧ K j = K i := by
  intro i
  induction i using Nat.strongRecOn with
  | ind i ih =>
    by_cases h : isFst K i = true
    · exact ⟨i, Nat.le_refl _, h, rfl⟩
    · rw [isFst_t] at h
      have : ∃ j, j < i ∧ K j = K i := Classical.byContradiction fun hn => h fun j hj e => hn ⟨j, hj, e⟩
      obtain ⟨j, hj, e⟩ := this
      obtain ⟨k, k1, k2, k3⟩ := ih j hj
      exact ⟨k, by omega, k2, by rw [k3, e]⟩
/-- The corner cells come in the order of the rectangles. -/
theorem corner_lt {P Q R S : Nat → Int} {n : Nat} (h : okR P Q R S n = true) {i k : Nat} (hik : i < k) (hk : k < n) {u v : Int} (hu : inI P Q R S k u v) : cIx (P i) (Q i) < cIx u v := by
  obtain ⟨u1, u2, u3, u4⟩ := hu
  obtain ⟨i1, i2, i3, i4, i5, i6⟩ := rvB_t (okR_all h i (by omega))
  obtain ⟨k1, k2, k3, k4, k5, k6⟩ := rvB_t (okR_all h k hk)
  unfold cIx
  rcases okR_ord h hik hk with ⟨o1, o2, o3⟩ | o <;> omega
theorem corner_le {P Q R S : Nat → Int} {n : Nat} (h : okR P Q R S n = true) {i : Nat} (hi : i < n) {u v : Int} (hu : inI P Q R S i u v) : cIx (P i) (Q i) ≤ cIx u v := by
  obtain ⟨u1, u2, u3, u4⟩ := hu
  obtain ⟨i1, i2, i3, i4, i5, i6⟩ := rvB_t (okR_all h i hi)
  unfold cIx
  omega
theorem inI_chip {P Q R S : Nat → Int} {n : Nat} (h : okR P Q R S n = true) {i : Nat} (hi : i < n) {u v : Int} (hu : inI P Q R S i u v) : (-40 ≤ u ∧ u ≤ 39) ∧ (-40 ≤ v ∧ v ≤ 39) := by
  obtain ⟨u1, u2, u3, u4⟩ := hu
  obtain ⟨i1, i2, i3, i4, i5, i6⟩ := rvB_t (okR_all h i hi)
  omega
/-- The corners of the first rectangles are the first cells of the parts. -/
theorem fsts_starts {P Q R S : Nat → Int} {n : Nat} {wide : Bool} {K : Nat → Nat} (hK : RootsOK P Q R S n wide K) (h : okR P Q R S n = true) :
    (fstsTo K n).map (fun i => cIx (P i) (Q i)) = startsTo (covF P Q R S n) wide 6400 := by
  refine inc_ext ?_ startsTo_inc fun s => ?_
  · rw [List.pairwise_map]
    refine List.Pairwise.imp_of_mem ?_ (fstsTo_inc (K := K) (m := n))
    intro i k hi hk hik
    exact corner_lt h hik (fstsTo_mem.1 hk).1 (corner_in h (fstsTo_mem.1 hk).1)
  · rw [List.mem_map, startsTo_iff (Nat.le_refl _)]
    constructor
    · rintro ⟨i, hi, rfl⟩
      obtain ⟨hin, hf⟩ := fstsTo_mem.1 hi
      have hc := inI_chip h hin (corner_in h hin)
      have hhas := inI_has h hin (corner_in h hin)
      refine ⟨cIx_lt hc.1.1 hc.1.2 hc.2.1 hc.2.2, by rw [hasB_in hc] at hhas; exact hhas, fun j hj => ?_⟩
      rw [(cxN_at hc).1, (cxN_at hc).2]
      cases hp : partF (covF P Q R S n) wide (P i) (Q i) j with
      | false => rfl
      | true =>
        rw [partF_t] at hp
        have hl := cIx_lt hc.1.1 hc.1.2 hc.2.1 hc.2.2
        have hcj := cIx_cN (k := j) (by omega)
        obtain ⟨k, hk, hkc⟩ := has_inI h hp.right
        have e := (hK.all h hin hk (corner_in h hin) hkc).2 hp
        rcases Nat.lt_trichotomy k i with o | o | o
        · exact absurd e.symm (isFst_t.1 hf k o)
        · subst o
          have := corner_le h hin hkc
          rw [hcj.1] at this; omega
        · have := corner_lt h o hk hkc
          rw [hcj.1] at this; omega
    · rintro ⟨h1, h2, h3⟩
      have hcs := cIx_cN h1
      have hhas : hasB (covF P Q R S n) (cxN s) (cyN s) = true := by rw [hasB_in hcs.2, hcs.1]; exact h2
      obtain ⟨i, hi, hic⟩ := has_inI h hhas
      have hci := inI_chip h hi (corner_in h hi)
      have hle := corner_le h hi hic
      rw [hcs.1] at hle
      have hcon := (hK.all h hi hi hic (corner_in h hi)).1 rfl
      have hs : cIx (P i) (Q i) = s := by
        by_cases e : cIx (P i) (Q i) = s
        · exact e
        · have := h3 (cIx (P i) (Q i)) (by omega)
          rw [← Bool.not_eq_true, partF_t, (cxN_at hci).1, (cxN_at hci).2] at this
          exact absurd hcon this
      refine ⟨i, fstsTo_mem.2 ⟨hi, isFst_t.2 fun j hj e => ?_⟩, hs⟩
      have hjn : j < n := by omega
      have hcj := inI_chip h hjn (corner_in h hjn)
      have hlt := corner_lt h hj hi (corner_in h hi)
      have := h3 (cIx (P j) (Q j)) (by omega)
      rw [← Bool.not_eq_true, partF_t, (cxN_at hcj).1, (cxN_at hcj).2] at this
      exact this ((hK.all h hi hjn hic (corner_in h hjn)).1 e.symm)
/-- The rectangles of the class of rectangle i among the first m ones. -/
def piecesTo (P Q R S : Nat → Int) (K : Nat → Nat) (i : Nat) : Nat → List R4
  | 0 => []
  | m + 1 => if K m = K i then piecesTo P Q R S K i m ++ [⟨P m, Q m, R m, S m⟩] else piecesTo P Q R S K i m
theorem piecesTo_len (P Q R S : Nat → Int) (K : Nat → Nat) (i : Nat) : ∀ m, (piecesTo P Q R S K i m).length ≤ m
  | 0 => Nat.le_refl _
  | m + 1 => by
    have := piecesTo_len P Q R S K i m
    rw [piecesTo]; split
    · rw [List.length_append]; simp; omega
    · omega
theorem piecesTo_mem {P Q R S : Nat → Int} {K : Nat → Nat} {i : Nat} {r : R4} : ∀ {m : Nat}, r ∈ piecesTo P Q R S K i m ↔ ∃ k, k < m ∧ K k = K i ∧ r = ⟨P k, Q k, R k, S k⟩
  | 0 => by simp [piecesTo]
  | m + 1 => by
    rw [piecesTo]
    split
    · rename_i e
      rw [List.mem_append, piecesTo_mem, List.mem_singleton]
      constructor
      · rintro (⟨k, h1, h2⟩ | h1)
        · exact ⟨k, by omega, h2⟩
        · exact ⟨m, by omega, e, h1⟩
      · rintro ⟨k, h1, h2, h3⟩
        by_cases o : k = m
        · subst o; exact .inr h3
        · exact .inl ⟨k, by omega, h2, h3⟩
    · rename_i e
      rw [piecesTo_mem]
      constructor
      · rintro ⟨k, h1, h2⟩; exact ⟨k, by omega, h2⟩
      · rintro ⟨k, h1, h2, h3⟩
        by_cases o : k = m
        · subst o; exact absurd h2 e
        · exact ⟨k, by omega, h2, h3⟩
theorem inR_t {l : List R4} {x y : Int} : inR l x y = true ↔ ∃ r, r ∈ l ∧ r.a ≤ x ∧ x < r.c ∧ r.b ≤ y ∧ y < r.d := by
  unfold inR
  rw [List.any_eq_true]
  constructor
  · rintro ⟨r, h1, h2⟩
    simp only [Bool.and_eq_true, decide_eq_true_eq] at h2
    exact ⟨r, h1, h2.1.1.1, h2.1.1.2, h2.1.2, h2.2⟩
  · rintro ⟨r, h1, h2, h3, h4, h5⟩
    exact ⟨r, h1, by simp [h2, h3, h4, h5]⟩
/-- The rectangles of a class cover the part. -/
theorem pieces_part {P Q R S : Nat → Int} {n : Nat} {wide : Bool} {K : Nat → Nat} (hK : RootsOK P Q R S n wide K) (h : okR P Q R S n = true) {i : Nat} (hi : i < n) {x y : Int} :
    inR (piecesTo P Q R S K i n) x y = hasB (partF (covF P Q R S n) wide (P i) (Q i)) x y := by
  rw [Bool.eq_iff_iff, inR_t, has_part]
  constructor
  · rintro ⟨r, hr, h1, h2, h3, h4⟩
    obtain ⟨k, hk, e, rfl⟩ := piecesTo_mem.1 hr
    exact (hK.all h hi hk (corner_in h hi) ⟨h1, h2, h3, h4⟩).1 e.symm
  · intro c
    obtain ⟨k, hk, hkc⟩ := has_inI h c.right
    have e := (hK.all h hi hk (corner_in h hi) hkc).2 c
    exact ⟨_, piecesTo_mem.2 ⟨k, hk, e.symm, rfl⟩, hkc⟩
theorem pieces_valid {P Q R S : Nat → Int} {n : Nat} {K : Nat → Nat} (h : okR P Q R S n = true) {i : Nat} : ∀ r, r ∈ piecesTo P Q R S K i n → rvB r.a r.b r.c r.d = true := fun r hr => by
  obtain ⟨k, hk, e, rfl⟩ := piecesTo_mem.1 hr
  exact okR_all h k hk
/-- The region of a class's rectangles is the region of the part. -/
theorem pieces_canon {P Q R S : Nat → Int} {n : Nat} {wide : Bool} {K : Nat → Nat} (hK : RootsOK P Q R S n wide K) (h : okR P Q R S n = true) {i : Nat} (hi : i < n) :
    roL (pA (piecesTo P Q R S K i n)) (pB (piecesTo P Q R S K i n)) (pC (piecesTo P Q R S K i n)) (pD (piecesTo P Q R S K i n)) (piecesTo P Q R S K i n).length = canonL (partF (covF P Q R S n) wide (P i) (Q i)) := by
  have hn : n ≤ 3200 := by
    unfold okR okV at h
    simp only [Bool.and_eq_true, decide_eq_true_eq] at h
    exact h.1.1.1
  have hv : ∀ k, k < (piecesTo P Q R S K i n).length → rvB (pA (piecesTo P Q R S K i n) k) (pB (piecesTo P Q R S K i n) k) (pC (piecesTo P Q R S K i n) k) (pD (piecesTo P Q R S K i n) k) = true := fun k hk => pieces_valid h _ (List.mem_of_getElem? (getD_get hk))
  have hl := piecesTo_len P Q R S K i n
  unfold roL
  rw [if_pos (by unfold okV; rw [allV_mk hv, decide_eq_true (by omega)]; rfl)]
  exact canonL_same fun x y _ _ _ _ => by rw [hasB_cov hv, covB_pA, pieces_part hK h hi]
end Go.Proofs.YtepfnnhmplaocaaDoor
