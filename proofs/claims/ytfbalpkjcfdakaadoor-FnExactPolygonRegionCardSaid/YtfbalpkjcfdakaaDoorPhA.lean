/- Sets filled between edges: from the left and from the right; between the sides of a polygon both are one. No program's run in it. -/
import Derived.Test.YtfbalpkjcfdakaaDoorEhA
import Derived.Test.YtfbalpkjcfdakaaDoorPgA
namespace Go.Proofs.YtfbalpkjcfdakaaDoor
open Go.RowKit
set_option linter.unusedVariables false
set_option linter.unusedSimpArgs false

def fillF (L : List R4) (k : Nat) : Bool := lft L (((k % 80 : Nat) : Int) - 40) (((k / 80 : Nat) : Int) - 40)
def fillR (L : List R4) (k : Nat) : Bool := rgt L (((k % 80 : Nat) : Int) - 40) (((k / 80 : Nat) : Int) - 40)
theorem fillF_has (L : List R4) {x y : Int} (h : (-40 ≤ x ∧ x ≤ 39) ∧ (-40 ≤ y ∧ y ≤ 39)) : hasB (fillF L) x y = lft L x y := by
  rw [hasB_in h]
  unfold fillF
  rw [(cIx_back h.1.1 h.1.2 h.2.1 h.2.2).1, (cIx_back h.1.1 h.1.2 h.2.1 h.2.2).2]
theorem fillR_has (L : List R4) {x y : Int} (h : (-40 ≤ x ∧ x ≤ 39) ∧ (-40 ≤ y ∧ y ≤ 39)) : hasB (fillR L) x y = rgt L x y := by
  rw [hasB_in h]
  unfold fillR
  rw [(cIx_back h.1.1 h.1.2 h.2.1 h.2.2).1, (cIx_back h.1.1 h.1.2 h.2.1 h.2.2).2]
theorem par_snoc (q : R4 → Bool) (L : List R4) (e : R4) : decide (((L ++ [e]).filter q).length % 2 = 1) = (decide ((L.filter q).length % 2 = 1) != q e) := by
  rw [List.filter_append, List.length_append]
  cases hq : q e with
  | true =>
    have : ([e].filter q).length = 1 := by simp [hq]
    rw [this, Bool.eq_iff_iff]
    simp
    omega
  | false =>
    have : ([e].filter q).length = 0 := by simp [hq]
    rw [this, Bool.eq_iff_iff]
    simp
theorem lft_snoc (L : List R4) (e : R4) (x y : Int) : lft (L ++ [e]) x y = (lft L x y != (crs y e && decide (e.a ≤ x))) := par_snoc _ L e
theorem rgt_snoc (L : List R4) (e : R4) (x y : Int) : rgt (L ++ [e]) x y = (rgt L x y != (crs y e && decide (x < e.a))) := par_snoc _ L e
theorem listR_succ (P Q R S : Nat → Int) (n : Nat) : listR P Q R S (n + 1) = listR P Q R S n ++ [⟨P n, Q n, R n, S n⟩] := by simp [listR, List.range_succ]
theorem crs_flat {y : Int} {e : R4} (h : e.b = e.d) : crs y e = false := by
  cases hc : crs y e with
  | false => rfl
  | true => rw [crs_t] at hc; omega
theorem crs_par {y : Int} {e : R4} (h : e.a = e.c ∨ e.b = e.d) : crs y e = (decide (e.b ≤ y) != decide (e.d ≤ y)) := by
  by_cases k : e.b = e.d
  · rw [crs_flat k, k]; simp
  · rw [Bool.eq_iff_iff, crs_t]
    have ha : e.a = e.c := by omega
    by_cases p : e.b ≤ y <;> by_cases q : e.d ≤ y <;> simp [p, q, ha] <;> omega
theorem crs_walk (X Y : Nat → Int) (n : Nat) (h : ∀ i, i < n → X i = X ((i + 1) % n) ∨ Y i = Y ((i + 1) % n)) (y : Int) : ∀ k, k ≤ n → decide (((listR X Y (fun i => X ((i + 1) % n)) (fun i => Y ((i + 1) % n)) k).filter (crs y)).length % 2 = 1) = (decide (Y 0 ≤ y) != decide (Y (k % n) ≤ y))
  | 0, _ => by rw [Nat.zero_mod]; simp [listR]
  | k + 1, hk => by
    rw [listR_succ, par_snoc, crs_walk X Y n h y k (by omega), crs_par (h k (by omega)), Nat.mod_eq_of_lt (show k < n by omega)]
    show ((decide (Y 0 ≤ y) != decide (Y k ≤ y)) != (decide (Y k ≤ y) != decide (Y ((k + 1) % n) ≤ y))) = _
    cases decide (Y 0 ≤ y) <;> cases decide (Y k ≤ y) <;> cases decide (Y ((k + 1) % n) ≤ y) <;> rfl
theorem poly_even {X Y : Nat → Int} {n : Nat} (h : ∀ i, i < n → X i = X ((i + 1) % n) ∨ Y i = Y ((i + 1) % n)) (y : Int) : ((listR X Y (fun i => X ((i + 1) % n)) (fun i => Y ((i + 1) % n)) n).filter (crs y)).length % 2 = 0 := by
  have := crs_walk X Y n h y n (Nat.le_refl _)
  rw [Nat.mod_self] at this
  simp at this
  omega
/-- Between the sides of a polygon: from the left as from the right. -/
theorem poly_lr {X Y : Nat → Int} {n : Nat} (h : ∀ i, i < n → X i = X ((i + 1) % n) ∨ Y i = Y ((i + 1) % n)) (x y : Int) : lft (listR X Y (fun i => X ((i + 1) % n)) (fun i => Y ((i + 1) % n)) n) x y = rgt (listR X Y (fun i => X ((i + 1) % n)) (fun i => Y ((i + 1) % n)) n) x y := by
  have he := poly_even h y
  obtain ⟨L, hL⟩ : ∃ L, L = listR X Y (fun i => X ((i + 1) % n)) (fun i => Y ((i + 1) % n)) n := ⟨_, rfl⟩
  rw [← hL] at he ⊢
  have hs := filter_split (fun e : R4 => decide (e.a ≤ x)) (fun e : R4 => decide (x < e.a)) (L.filter (crs y)) fun e _ => by
    rw [Bool.eq_iff_iff]; simp
  rw [List.filter_filter, List.filter_filter] at hs
  have c1 : (L.filter fun e => decide (e.a ≤ x) && crs y e) = L.filter fun e => crs y e && decide (e.a ≤ x) := by congr 1; funext e; exact Bool.and_comm ..
  have c2 : (L.filter fun e => decide (x < e.a) && crs y e) = L.filter fun e => crs y e && decide (x < e.a) := by congr 1; funext e; exact Bool.and_comm ..
  rw [c1, c2] at hs
  unfold lft rgt
  rw [Bool.eq_iff_iff]
  simp only [decide_eq_true_eq]
  omega
theorem poly_fill {X Y : Nat → Int} {n : Nat} (h : polyB X Y n = true) (k : Nat) : fillF (listR X Y (fun i => X ((i + 1) % n)) (fun i => Y ((i + 1) % n)) n) k = fillR (listR X Y (fun i => X ((i + 1) % n)) (fun i => Y ((i + 1) % n)) n) k :=
  poly_lr (fun i hi => by have := turn_side (turnsB_at (polyB_t h).2.2.2 hi); omega) _ _
/-- The edges of a set fill it, from both sides. -/
theorem edges_fill {f : Nat → Bool} {L : List R4} (h : EdgesOf f L) (k : Nat) (hk : k < 6400) : fillF L k = f k := by
  have hx : -40 ≤ (((k % 80 : Nat) : Int) - 40) ∧ (((k % 80 : Nat) : Int) - 40) ≤ 39 := by omega
  have hy : -40 ≤ (((k / 80 : Nat) : Int) - 40) ∧ (((k / 80 : Nat) : Int) - 40) ≤ 39 := by omega
  unfold fillF
  rw [lft_has h hx.1 hx.2, hasB_in ⟨hx, hy⟩]
  congr 1
  unfold cIx
  omega
theorem edges_fillR {f : Nat → Bool} {L : List R4} (h : EdgesOf f L) (k : Nat) (hk : k < 6400) : fillR L k = f k := by
  have hx : -40 ≤ (((k % 80 : Nat) : Int) - 40) ∧ (((k % 80 : Nat) : Int) - 40) ≤ 39 := by omega
  have hy : -40 ≤ (((k / 80 : Nat) : Int) - 40) ∧ (((k / 80 : Nat) : Int) - 40) ≤ 39 := by omega
  unfold fillR
  rw [rgt_has h hx.1 hx.2, hasB_in ⟨hx, hy⟩]
  congr 1
  unfold cIx
  omega
end Go.Proofs.YtfbalpkjcfdakaaDoor
