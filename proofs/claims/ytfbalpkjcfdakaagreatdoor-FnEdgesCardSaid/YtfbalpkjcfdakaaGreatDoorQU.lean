/- Joins of consecutive elements, and the state of a sliding window that keeps them. No program's run in it; the join is associative and has a zero. -/
import Derived.Test.YtfbalpkjcfdakaaGreatDoorQH
import Derived.Test.YtfbalpkjcfdakaaGreatDoorQE
import Derived.Test.YtfbalpkjcfdakaaGreatDoorQG
import Derived.Maps.AppendAt
import Derived.Maps.OwnIn
namespace Go.Proofs.YtfbalpkjcfdakaaGreatDoor
open Go.RowKit
set_option linter.unusedVariables false
set_option linter.unusedSimpArgs false

section
variable {E : Type}
/-- A join: associative, with a zero. -/
structure JoinOK (op : E → E → E) (z : E) : Prop where
  assoc : ∀ a b c, op (op a b) c = op a (op b c)
  left : ∀ a, op z a = a
  right : ∀ a, op a z = a
/-- The elements a, a + 1, .. (n of them) joined. -/
def jn (op : E → E → E) (z : E) (f : Nat → E) (a : Nat) : Nat → E
  | 0 => z
  | n + 1 => op (jn op z f a n) (f (a + n))
theorem jn_zero (op : E → E → E) (z : E) (f : Nat → E) (a : Nat) : jn op z f a 0 = z := rfl
theorem jn_succ (op : E → E → E) (z : E) (f : Nat → E) (a n : Nat) : jn op z f a (n + 1) = op (jn op z f a n) (f (a + n)) := rfl
theorem jn_cons {op : E → E → E} {z : E} (h : JoinOK op z) (f : Nat → E) (a : Nat) : ∀ n, jn op z f a (n + 1) = op (f a) (jn op z f (a + 1) n)
  | 0 => by rw [jn_succ, jn_zero, jn_zero, h.left, h.right]; rfl
  | n + 1 => by rw [jn_succ, jn_cons h f a n, h.assoc, jn_succ, show a + (n + 1) = a + 1 + n by omega]
theorem jn_add {op : E → E → E} {z : E} (h : JoinOK op z) (f : Nat → E) (a p : Nat) : ∀ q, jn op z f a (p + q) = op (jn op z f a p) (jn op z f (a + p) q)
  | 0 => by rw [jn_zero, h.right]; rfl
  | q + 1 => by rw [show p + (q + 1) = (p + q) + 1 by omega, jn_succ, jn_add h f a p q, jn_succ, h.assoc, show a + (p + q) = a + p + q by omega]
/-- What is kept of n elements that leave: the joins of the last 1, 2, .. of those before m. -/
def lvL (op : E → E → E) (z : E) (f : Nat → E) (m n : Nat) : List E := (List.range n).map fun t => jn op z f (m - 1 - t) (t + 1)
/-- Elements a, a + 1, .. (n of them). -/
def enL (f : Nat → E) (a n : Nat) : List E := (List.range n).map fun j => f (a + j)
theorem lvL_len (op : E → E → E) (z : E) (f : Nat → E) (m n : Nat) : (lvL op z f m n).length = n := by simp [lvL]
theorem enL_len (f : Nat → E) (a n : Nat) : (enL f a n).length = n := by simp [enL]
theorem lvL_snoc (op : E → E → E) (z : E) (f : Nat → E) (m n : Nat) : lvL op z f m (n + 1) = lvL op z f m n ++ [jn op z f (m - 1 - n) (n + 1)] := by simp [lvL, List.range_succ]
theorem enL_snoc (f : Nat → E) (a n : Nat) : enL f a (n + 1) = enL f a n ++ [f (a + n)] := by simp [enL, List.range_succ]
theorem enL_get (f : Nat → E) (a n j : Nat) (h : j < n) : (enL f a n)[j]? = some (f (a + j)) := by simp [enL, List.getElem?_range h]
theorem lvL_get (op : E → E → E) (z : E) (f : Nat → E) (m n t : Nat) (h : t < n) : (lvL op z f m n)[t]? = some (jn op z f (m - 1 - t) (t + 1)) := by simp [lvL, List.getElem?_range h]
theorem enL_nil (f : Nat → E) (a : Nat) : enL f a 0 = [] := rfl
theorem lvL_nil (op : E → E → E) (z : E) (f : Nat → E) (m : Nat) : lvL op z f m 0 = [] := rfl

/-- The window holds elements l .. r-1; those before m are among the ones that leave. -/
structure WinOK (op : E → E → E) (z : E) (f : Nat → E) (lv en : List E) (lat : E) (l r : Nat) : Prop where
  ex : ∃ m, l ≤ m ∧ m ≤ r ∧ lv = lvL op z f m (m - l) ∧ en = enL f m (r - m) ∧ lat = jn op z f m (r - m)
theorem WinOK.start (op : E → E → E) (z : E) (f : Nat → E) : WinOK op z f [] [] z 0 0 := ⟨0, Nat.le_refl _, Nat.le_refl _, rfl, rfl, rfl⟩
theorem WinOK.enter {op : E → E → E} {z : E} {f : Nat → E} {lv en : List E} {lat : E} {l r : Nat} (h : WinOK op z f lv en lat l r) : WinOK op z f lv (en ++ [f r]) (op lat (f r)) l (r + 1) := by
  obtain ⟨m, h1, h2, h3, h4, h5⟩ := h.ex
  have e : m + (r - m) = r := by omega
  refine ⟨m, h1, by omega, h3, ?_, ?_⟩
  · rw [show r + 1 - m = r - m + 1 by omega, enL_snoc, h4, e]
  · rw [show r + 1 - m = r - m + 1 by omega, jn_succ, h5, e]
theorem WinOK.leave {op : E → E → E} {z : E} {f : Nat → E} {lv en : List E} {lat : E} {l r k : Nat} (h : WinOK op z f lv en lat l r) (hk : lv.length = k + 1) : WinOK op z f (lv.take k) en lat (l + 1) r := by
  obtain ⟨m, h1, h2, h3, h4, h5⟩ := h.ex
  have hl : m - l = k + 1 := by rw [h3, lvL_len] at hk; exact hk
  refine ⟨m, by omega, h2, ?_, h4, h5⟩
  rw [show m - (l + 1) = k by omega, h3, hl, lvL_snoc, List.take_append_of_le_length (by rw [lvL_len]; exact Nat.le_refl _), List.take_of_length_le (by rw [lvL_len]; exact Nat.le_refl _)]
theorem WinOK.turned {op : E → E → E} {z : E} {f : Nat → E} {en : List E} {lat : E} {l r : Nat} (h : WinOK op z f [] en lat l r) : en = enL f l (r - l) ∧ l ≤ r ∧ WinOK op z f (lvL op z f r (r - l)) [] z l r := by
  obtain ⟨m, h1, h2, h3, h4, h5⟩ := h.ex
  have hl : m - l = 0 := by have := congrArg List.length h3; rw [lvL_len] at this; exact this.symm
  obtain rfl : m = l := by omega
  refine ⟨h4, h2, ⟨r, h2, Nat.le_refl _, rfl, ?_, ?_⟩⟩
  · rw [Nat.sub_self]; rfl
  · rw [Nat.sub_self]; rfl
theorem WinOK.joined {op : E → E → E} {z : E} {f : Nat → E} {lv en : List E} {lat : E} {l r : Nat} (h : WinOK op z f lv en lat l r) (hj : JoinOK op z) : (match lv.getLast? with | none => lat | some e => op e lat) = jn op z f l (r - l) := by
  obtain ⟨m, h1, h2, h3, h4, h5⟩ := h.ex
  by_cases hl : m = l
  · subst hl
    rw [h3, Nat.sub_self, lvL_nil, h5]
    rfl
  · obtain ⟨k, hk⟩ : ∃ k, m - l = k + 1 := ⟨m - l - 1, by omega⟩
    have hs := jn_add hj f l (k + 1) (r - m)
    rw [show l + (k + 1) = m by omega] at hs
    rw [h3, hk, lvL_snoc, List.getLast?_concat, h5, show r - l = (k + 1) + (r - m) by omega, hs, show m - 1 - k = l by omega]
theorem WinOK.len {op : E → E → E} {z : E} {f : Nat → E} {lv en : List E} {lat : E} {l r : Nat} (h : WinOK op z f lv en lat l r) : lv.length + en.length = r - l ∧ l ≤ r := by
  obtain ⟨m, h1, h2, h3, h4, h5⟩ := h.ex
  rw [h3, h4, lvL_len, enL_len]; omega
/-- What the window gives of element i of n. -/
def slF (op : E → E → E) (z : E) (f : Nat → E) (n b a i : Nat) : E := jn op z f (i - b) (min n (i + a + 1) - (i - b))
theorem jn_congr {op : E → E → E} {z : E} {f g : Nat → E} {a : Nat} : ∀ {n}, (∀ j, a ≤ j → j < a + n → f j = g j) → jn op z f a n = jn op z g a n
  | 0, _ => rfl
  | n + 1, h => by rw [jn_succ, jn_succ, jn_congr fun j h1 h2 => h j h1 (by omega), h (a + n) (by omega) (by omega)]
end
theorem join_or : JoinOK (fun a b : Bool => a || b) false := ⟨Bool.or_assoc, Bool.false_or, Bool.or_false⟩
/-- Two words. -/
def wOr (p q : Nat × Nat) : Nat × Nat := (p.1 ||| q.1, p.2 ||| q.2)
theorem join_wOr : JoinOK wOr (0, 0) := ⟨fun a b c => by unfold wOr; simp [Nat.or_assoc], fun a => by unfold wOr; simp, fun a => by unfold wOr; simp⟩
theorem jn_or_t (f : Nat → Bool) (a : Nat) : ∀ n, jn (fun a b : Bool => a || b) false f a n = true ↔ ∃ j, a ≤ j ∧ j < a + n ∧ f j = true
  | 0 => by simp [jn_zero]; intro j h1 h2; omega
  | n + 1 => by
    rw [jn_succ, Bool.or_eq_true, jn_or_t f a n]
    constructor
    · rintro (⟨j, h1, h2, h3⟩ | h)
      · exact ⟨j, h1, by omega, h3⟩
      · exact ⟨a + n, by omega, by omega, h⟩
    · rintro ⟨j, h1, h2, h3⟩
      by_cases e : j = a + n
      · exact .inr (e ▸ h3)
      · exact .inl ⟨j, h1, by omega, h3⟩
/-- A column of joined words. -/
theorem jn_wOr_col (f : Nat → Nat × Nat) (a c : Nat) : ∀ n, colB (jn wOr (0, 0) f a n).1 (jn wOr (0, 0) f a n).2 c = jn (fun a b : Bool => a || b) false (fun j => colB (f j).1 (f j).2 c) a n
  | 0 => by simp [jn_zero, colB]
  | n + 1 => by rw [jn_succ, jn_succ, ← jn_wOr_col f a c n]; unfold wOr; exact colB_or _ _ _ _ _
theorem jn_wOr_ok {f : Nat → Nat × Nat} {a : Nat} : ∀ {n}, (∀ j, a ≤ j → j < a + n → W64 (f j).1 ∧ (f j).2 < 65536) → W64 (jn wOr (0, 0) f a n).1 ∧ (jn wOr (0, 0) f a n).2 < 65536
  | 0, _ => by unfold W64; simp [jn_zero]
  | n + 1, h => by
    rw [jn_succ]
    obtain ⟨h1, h2⟩ := jn_wOr_ok (n := n) fun j a b => h j a (by omega)
    obtain ⟨h3, h4⟩ := h (a + n) (by omega) (by omega)
    exact ⟨Nat.or_lt_two_pow (n := 64) h1 h3, Nat.or_lt_two_pow (n := 16) h2 h4⟩
end Go.Proofs.YtfbalpkjcfdakaaGreatDoor

namespace Go.Proofs.YtfbalpkjcfdakaaGreatDoor
open Go.RowKit
set_option linter.unusedVariables false
set_option linter.unusedSimpArgs false

theorem slF_t (f : Nat → Bool) (n b a i : Nat) : slF (fun a b : Bool => a || b) false f n b a i = true ↔ ∃ j, i ≤ j + b ∧ j ≤ i + a ∧ j < n ∧ f j = true := by
  unfold slF
  rw [jn_or_t]
  constructor
  · rintro ⟨j, h1, h2, h3⟩
    exact ⟨j, by omega, by omega, by omega, h3⟩
  · rintro ⟨j, h1, h2, h3, h4⟩
    exact ⟨j, by omega, by omega, h4⟩
/-- Flags that see one in their row; in their column; both. -/
def acF (f : Nat → Bool) (b a k : Nat) : Bool := slF (fun a b : Bool => a || b) false (fun u => f (k / 80 * 80 + u)) 80 b a (k % 80)
def dnF (f : Nat → Bool) (b a k : Nat) : Bool := slF (fun a b : Bool => a || b) false (fun v => f (v * 80 + k % 80)) 80 b a (k / 80)
def seeF (f : Nat → Bool) (b a : Nat) : Nat → Bool := dnF (acF f b a) b a
theorem acF_t (f : Nat → Bool) (b a k : Nat) : acF f b a k = true ↔ ∃ u, k % 80 ≤ u + b ∧ u ≤ k % 80 + a ∧ u < 80 ∧ f (k / 80 * 80 + u) = true := slF_t _ _ _ _ _
theorem dnF_t (f : Nat → Bool) (b a k : Nat) : dnF f b a k = true ↔ ∃ v, k / 80 ≤ v + b ∧ v ≤ k / 80 + a ∧ v < 80 ∧ f (v * 80 + k % 80) = true := slF_t _ _ _ _ _
theorem seeF_t (f : Nat → Bool) (b a k : Nat) : seeF f b a k = true ↔ ∃ u v, k % 80 ≤ u + b ∧ u ≤ k % 80 + a ∧ u < 80 ∧ k / 80 ≤ v + b ∧ v ≤ k / 80 + a ∧ v < 80 ∧ f (v * 80 + u) = true := by
  unfold seeF
  rw [dnF_t]
  have h80 : k % 80 < 80 := Nat.mod_lt _ (by decide)
  constructor
  · rintro ⟨v, h1, h2, h3, h4⟩
    obtain ⟨u, g1, g2, g3, g4⟩ := (acF_t _ _ _ _).1 h4
    rw [show (v * 80 + k % 80) % 80 = k % 80 by omega] at g1 g2
    rw [show (v * 80 + k % 80) / 80 = v by omega] at g4
    exact ⟨u, v, g1, g2, g3, h1, h2, h3, g4⟩
  · rintro ⟨u, v, g1, g2, g3, h1, h2, h3, g4⟩
    refine ⟨v, h1, h2, h3, (acF_t _ _ _ _).2 ⟨u, ?_, ?_, g3, ?_⟩⟩
    · rw [show (v * 80 + k % 80) % 80 = k % 80 by omega]; exact g1
    · rw [show (v * 80 + k % 80) % 80 = k % 80 by omega]; exact g2
    · rw [show (v * 80 + k % 80) / 80 = v by omega]; exact g4
theorem acF_congr {f g : Nat → Bool} (h : ∀ j, j < 6400 → f j = g j) (b a : Nat) {k : Nat} (hk : k < 6400) : acF f b a k = acF g b a k := by
  rw [Bool.eq_iff_iff, acF_t, acF_t]
  constructor <;> rintro ⟨u, g1, g2, g3, g4⟩
  · exact ⟨u, g1, g2, g3, by rw [← h _ (by omega)]; exact g4⟩
  · exact ⟨u, g1, g2, g3, by rw [h _ (by omega)]; exact g4⟩
theorem dnF_congr {f g : Nat → Bool} (h : ∀ j, j < 6400 → f j = g j) (b a : Nat) {k : Nat} (hk : k < 6400) : dnF f b a k = dnF g b a k := by
  rw [Bool.eq_iff_iff, dnF_t, dnF_t]
  constructor <;> rintro ⟨v, g1, g2, g3, g4⟩
  · exact ⟨v, g1, g2, g3, by rw [← h _ (by omega)]; exact g4⟩
  · exact ⟨v, g1, g2, g3, by rw [h _ (by omega)]; exact g4⟩
theorem seeF_congr {f g : Nat → Bool} (h : ∀ j, j < 6400 → f j = g j) (b a : Nat) {k : Nat} (hk : k < 6400) : seeF f b a k = seeF g b a k :=
  dnF_congr (fun j hj => acF_congr h b a hj) b a hk

/-- What the model's loop over a distance finds. -/
def rowH (f : Nat → Bool) (ac : Bool) (x y d : Int) : Bool := if ac = true then hasB f (x + d) y else hasB f x (y + d)
def anyD (f : Nat → Bool) (ac : Bool) (x y : Int) (k : Nat) : Nat → Bool
  | 0 => false
  | n + 1 => anyD f ac x y k n || rowH f ac x y (-(k : Int) + (n : Int))
theorem anyD_t (f : Nat → Bool) (ac : Bool) (x y : Int) (k : Nat) : ∀ n, anyD f ac x y k n = true ↔ ∃ t, t < n ∧ rowH f ac x y (-(k : Int) + (t : Int)) = true
  | 0 => by simp [anyD]
  | n + 1 => by
    rw [anyD, Bool.or_eq_true, anyD_t f ac x y k n]
    constructor
    · rintro (⟨t, h1, h2⟩ | h)
      · exact ⟨t, by omega, h2⟩
      · exact ⟨n, by omega, h⟩
    · rintro ⟨t, h1, h2⟩
      by_cases e : t = n
      · exact .inr (e ▸ h2)
      · exact .inl ⟨t, by omega, h2⟩
def rF (f : Nat → Bool) (ac : Bool) (k j : Nat) : Bool := anyD f ac ((j % 80 : Nat) - 40) ((j / 80 : Nat) - 40) k (2 * k + 1)
theorem hasB_nat (f : Nat → Bool) {u v : Nat} (hu : u < 80) (hv : v < 80) : hasB f ((u : Int) - 40) ((v : Int) - 40) = f (v * 80 + u) := by
  rw [hasB_in (by omega)]
  congr 1
  unfold cIx
  omega
theorem rF_ac (f : Nat → Bool) (k : Nat) {j : Nat} (hj : j < 6400) : rF f true k j = acF f k k j := by
  unfold rF
  rw [Bool.eq_iff_iff, anyD_t, acF_t]
  constructor
  · rintro ⟨t, h1, h2⟩
    unfold rowH at h2
    rw [if_pos rfl] at h2
    have hin : -40 ≤ ((j % 80 : Nat) : Int) - 40 + (-(k : Int) + t) ∧ ((j % 80 : Nat) : Int) - 40 + (-(k : Int) + t) ≤ 39 := by
      unfold hasB at h2
      simp only [Bool.and_eq_true] at h2
      exact (inC_t h2.1).1
    obtain ⟨u, hu⟩ : ∃ u : Nat, ((j % 80 : Nat) : Int) - 40 + (-(k : Int) + t) = (u : Int) - 40 := ⟨(((j % 80 : Nat) : Int) + (-(k : Int) + t)).toNat, by omega⟩
    rw [hu, hasB_nat f (by omega) (by omega)] at h2
    exact ⟨u, by omega, by omega, by omega, h2⟩
  · rintro ⟨u, g1, g2, g3, g4⟩
    refine ⟨u + k - j % 80, by omega, ?_⟩
    unfold rowH
    rw [if_pos rfl, show ((j % 80 : Nat) : Int) - 40 + (-(k : Int) + ((u + k - j % 80 : Nat) : Int)) = (u : Int) - 40 by omega, hasB_nat f g3 (by omega)]
    exact g4
theorem rF_dn (f : Nat → Bool) (k : Nat) {j : Nat} (hj : j < 6400) : rF f false k j = dnF f k k j := by
  unfold rF
  rw [Bool.eq_iff_iff, anyD_t, dnF_t]
  constructor
  · rintro ⟨t, h1, h2⟩
    unfold rowH at h2
    rw [if_neg (by simp)] at h2
    have hin : -40 ≤ ((j / 80 : Nat) : Int) - 40 + (-(k : Int) + t) ∧ ((j / 80 : Nat) : Int) - 40 + (-(k : Int) + t) ≤ 39 := by
      unfold hasB at h2
      simp only [Bool.and_eq_true] at h2
      exact (inC_t h2.1).2
    obtain ⟨u, hu⟩ : ∃ u : Nat, ((j / 80 : Nat) : Int) - 40 + (-(k : Int) + t) = (u : Int) - 40 := ⟨(((j / 80 : Nat) : Int) + (-(k : Int) + t)).toNat, by omega⟩
    rw [hu, hasB_nat f (by omega) (by omega)] at h2
    exact ⟨u, by omega, by omega, by omega, h2⟩
  · rintro ⟨u, g1, g2, g3, g4⟩
    refine ⟨u + k - j / 80, by omega, ?_⟩
    unfold rowH
    rw [if_neg (by simp), show ((j / 80 : Nat) : Int) - 40 + (-(k : Int) + ((u + k - j / 80 : Nat) : Int)) = (u : Int) - 40 by omega, hasB_nat f (by omega) g3]
    exact g4

/-- .. of those of the set for which all that they see is in the set. -/
def shF (f : Nat → Bool) (b a k : Nat) : Bool := !seeF (fun j => !f j) b a k
theorem shF_t (f : Nat → Bool) (b a k : Nat) : shF f b a k = true ↔ ∀ u v, k % 80 ≤ u + b → u ≤ k % 80 + a → u < 80 → k / 80 ≤ v + b → v ≤ k / 80 + a → v < 80 → f (v * 80 + u) = true := by
  unfold shF
  rw [Bool.not_eq_true', Bool.eq_false_iff, ne_eq, seeF_t]
  constructor
  · intro h u v h1 h2 h3 h4 h5 h6
    cases e : f (v * 80 + u) with
    | true => rfl
    | false => exact absurd ⟨u, v, h1, h2, h3, h4, h5, h6, by simp [e]⟩ h
  · rintro h ⟨u, v, h1, h2, h3, h4, h5, h6, h7⟩
    rw [h u v h1 h2 h3 h4 h5 h6] at h7
    cases h7
theorem shF_congr {f g : Nat → Bool} (h : ∀ j, j < 6400 → f j = g j) (b a : Nat) {k : Nat} (hk : k < 6400) : shF f b a k = shF g b a k := by
  unfold shF
  rw [seeF_congr (f := fun j => !f j) (g := fun j => !g j) (fun j hj => by rw [h j hj]) b a hk]
/-- What a set grown covers, and what covers a set shrunk. -/
theorem grow_shrink (f g : Nat → Bool) (k : Nat) : (∀ j, j < 6400 → seeF f k k j = true → g j = true) ↔ (∀ j, j < 6400 → f j = true → shF g k k j = true) := by
  constructor
  · intro h j hj hf
    rw [shF_t]
    intro u v h1 h2 h3 h4 h5 h6
    refine h (v * 80 + u) (by omega) ((seeF_t _ _ _ _).2 ⟨j % 80, j / 80, ?_, ?_, by omega, ?_, ?_, by omega, ?_⟩)
    · rw [show (v * 80 + u) % 80 = u by omega]; omega
    · rw [show (v * 80 + u) % 80 = u by omega]; omega
    · rw [show (v * 80 + u) / 80 = v by omega]; omega
    · rw [show (v * 80 + u) / 80 = v by omega]; omega
    · rw [show j / 80 * 80 + j % 80 = j by omega]; exact hf
  · intro h j hj hs
    obtain ⟨u, v, h1, h2, h3, h4, h5, h6, h7⟩ := (seeF_t _ _ _ _).1 hs
    have := (shF_t _ _ _ _).1 (h (v * 80 + u) (by omega) h7) (j % 80) (j / 80) (by rw [show (v * 80 + u) % 80 = u by omega]; omega) (by rw [show (v * 80 + u) % 80 = u by omega]; omega) (by omega) (by rw [show (v * 80 + u) / 80 = v by omega]; omega) (by rw [show (v * 80 + u) / 80 = v by omega]; omega) (by omega)
    rwa [show j / 80 * 80 + j % 80 = j by omega] at this
end Go.Proofs.YtfbalpkjcfdakaaGreatDoor

namespace Go.Proofs.YtfbalpkjcfdakaaGreatDoor
open Go.RowKit
set_option linter.unusedVariables false
set_option linter.unusedSimpArgs false

theorem own_same {W W' : World} {base e sz n : Nat} {v : Value} {xs : List Value} (h : W.ownsRow base e sz v n xs) (hk : ∀ g, v.ownBlock = some g → W'.heap[g]? = W.heap[g]?) : W'.ownsRow base e sz v n xs := by
  refine ⟨h.1, ?_⟩
  rcases h.2 with h' | ⟨g, cap, cur, rfl, e2, e3, e4⟩
  · exact .inl h'
  · exact .inr ⟨g, cap, cur, rfl, e2, (hk g rfl).trans e3, e4⟩
theorem own_at {W : World} {base e sz n : Nat} {v : Value} {xs : List Value} (h : W.ownsRow base e sz v n xs) {g : Nat} (hg : v.ownBlock = some g) : base ≤ g ∧ g < W.heap.size ∧ ∃ cur, W.heap[g]? = some (.cells cur e (0, 0)) := by
  refine ⟨(h.lt g hg).1, (h.lt g hg).2, ?_⟩
  rcases h.2 with ⟨rfl, _⟩ | ⟨g', cap, cur, rfl, _, h3, _⟩
  · simp [Value.ownBlock] at hg
  · obtain rfl : g' = g := by simpa [Value.ownBlock] using hg
    exact ⟨cur, h3⟩
theorem own_slice {W : World} {base e sz n : Nat} {v : Value} {xs : List Value} (h : W.ownsRow base e sz v n xs) : ∃ a c, v = .slice a n c := by
  rcases h.2 with ⟨rfl, rfl⟩ | ⟨g', cap, cur, rfl, _⟩
  · exact ⟨_, _, rfl⟩
  · exact ⟨_, _, rfl⟩
theorem own_slice' {W : World} {base e sz n : Nat} {v : Value} {xs : List Value} (h : W.ownsRow base e sz v (n + 1) xs) : ∃ g c, v = .slice (some ⟨g, 0, none⟩) (n + 1) c ∧ n + 1 ≤ c ∧ base ≤ g ∧ g < W.heap.size := by
  rcases h.2 with ⟨rfl, h0⟩ | ⟨g', cap, cur, rfl, h1, h2, h3, _⟩
  · omega
  · exact ⟨g', cap, rfl, h3, h1, (Array.getElem?_eq_some_iff.1 h2).1⟩
theorem own_take {W : World} {base e sz n k g c : Nat} {xs : List Value} (h : W.ownsRow base e sz (.slice (some ⟨g, 0, none⟩) n c) n xs) (hk : k ≤ n) : W.ownsRow base e sz (.slice (some ⟨g, 0, none⟩) k c) k (xs.take (k * sz)) := by
  have hle : k * sz ≤ n * sz := Nat.mul_le_mul_right _ hk
  refine ⟨by rw [List.length_take, h.1]; omega, ?_⟩
  rcases h.2 with ⟨h0, _⟩ | ⟨g', cap, cur, h1, h2, h3, h4, h5, h6, h7⟩
  · cases h0
  · cases h1
    refine .inr ⟨g, c, cur, rfl, h2, h3, by omega, h5, h6, ?_⟩
    rw [← h7, List.take_take, Nat.min_eq_left hle]
theorem set_block {W : World} {b j : Nat} {cs : Array Value} {t : TypeId} {fr : Nat × Nat} (h : W.heap[b]? = some (.cells cs t fr)) (v : Value) : (W.setCell ⟨b, j, none⟩ v).heap[b]? = some (.cells (cs.setIfInBounds j v) t fr) := by
  simp [World.setCell, Array.getElem?_modify, h]
theorem set_other {W : World} {b j k : Nat} (h : k ≠ b) (v : Value) : (W.setCell ⟨b, j, none⟩ v).heap[k]? = W.heap[k]? := Below.heap_setCell _ _ _ _ h

section
variable {E : Type}
/-- What is left of the elements that leave, the last one first. -/
def ltr (op : E → E → E) (z : E) : List E → E
  | [] => z
  | e :: l => op e (ltr op z l)
/-- Elements are joined from the last one on. -/
def scn (op : E → E → E) (z : E) (l : List E) : List E := (List.range l.length).map fun t => ltr op z (l.drop (l.length - 1 - t))
theorem scn_len (op : E → E → E) (z : E) (l : List E) : (scn op z l).length = l.length := by simp [scn]
/-- .. of the last t of them. -/
def scT (op : E → E → E) (z : E) (l : List E) (t : Nat) : List E := (List.range t).map fun t => ltr op z (l.drop (l.length - 1 - t))
theorem scT_succ (op : E → E → E) (z : E) (l : List E) (t : Nat) : scT op z l (t + 1) = scT op z l t ++ [ltr op z (l.drop (l.length - 1 - t))] := by simp [scT, List.range_succ]
theorem scT_len (op : E → E → E) (z : E) (l : List E) (t : Nat) : (scT op z l t).length = t := by simp [scT]
theorem ltr_drop (op : E → E → E) (z : E) (l : List E) (k : Nat) (h : k < l.length) : ltr op z (l.drop k) = op l[k] (ltr op z (l.drop (k + 1))) := by
  rw [List.drop_eq_getElem_cons h]; rfl
theorem ltr_jn {op : E → E → E} {z : E} (h : JoinOK op z) (f : Nat → E) : ∀ (n a : Nat), ltr op z (enL f a n) = jn op z f a n
  | 0, a => rfl
  | n + 1, a => by
    have e : enL f a (n + 1) = f a :: enL f (a + 1) n := by
      unfold enL
      rw [List.range_succ_eq_map, List.map_cons, List.map_map, Nat.add_zero]
      congr 1
      apply List.map_congr_left
      intro x _
      show f (a + (x + 1)) = f (a + 1 + x)
      congr 1
      omega
    rw [e, jn_cons h, ← ltr_jn h f n (a + 1)]; rfl
theorem enL_drop (f : Nat → E) (a n k : Nat) (h : k ≤ n) : (enL f a n).drop k = enL f (a + k) (n - k) := by
  apply List.ext_getElem?
  intro i
  rw [List.getElem?_drop]
  by_cases hi : k + i < n
  · rw [enL_get _ _ _ _ hi, enL_get _ _ _ _ (by omega), Nat.add_assoc]
  · rw [List.getElem?_eq_none (by rw [enL_len]; omega), List.getElem?_eq_none (by rw [enL_len]; omega)]
theorem scn_lvL {op : E → E → E} {z : E} (h : JoinOK op z) (f : Nat → E) (a n : Nat) : scn op z (enL f a n) = lvL op z f (a + n) n := by
  unfold scn lvL
  rw [enL_len]
  apply List.map_congr_left
  intro t ht
  have ht' := List.mem_range.1 ht
  rw [enL_drop _ _ _ _ (by omega), ltr_jn h, show a + (n - 1 - t) = a + n - 1 - t by omega, show n - (n - 1 - t) = t + 1 by omega]
/-- A window behind a leave. -/
def lvN (op : E → E → E) (z : E) (lv en : List E) : List E := if lv.length = 0 then (scn op z en).take (en.length - 1) else lv.take (lv.length - 1)
def enN (lv en : List E) : List E := if lv.length = 0 then [] else en
def laN (z : E) (lv : List E) (lat : E) : E := if lv.length = 0 then z else lat
theorem WinOK.leave' {op : E → E → E} {z : E} {f : Nat → E} {lv en : List E} {lat : E} {l r : Nat} (h : WinOK op z f lv en lat l r) (hj : JoinOK op z) (hlr : l < r) : WinOK op z f (lvN op z lv en) (enN lv en) (laN z lv lat) (l + 1) r := by
  unfold lvN enN laN
  by_cases h0 : lv.length = 0
  · rw [if_pos h0, if_pos h0, if_pos h0]
    obtain rfl : lv = [] := List.eq_nil_of_length_eq_zero h0
    obtain ⟨h1, h2, h3⟩ := h.turned
    rw [h1, scn_lvL hj, enL_len, show l + (r - l) = r by omega]
    exact h3.leave (k := r - l - 1) (by rw [lvL_len]; omega)
  · rw [if_neg h0, if_neg h0, if_neg h0]
    exact h.leave (k := lv.length - 1) (by omega)
/-- What the window gives. -/
def jnd (op : E → E → E) (lv : List E) (lat : E) : E := match lv.getLast? with | none => lat | some e => op e lat
theorem jnd_nil (op : E → E → E) (lat : E) : jnd op [] lat = lat := rfl
theorem jnd_last (op : E → E → E) {lv : List E} {lat e : E} (h : lv.getLast? = some e) : jnd op lv lat = op e lat := by unfold jnd; rw [h]
end
end Go.Proofs.YtfbalpkjcfdakaaGreatDoor

namespace Go.Proofs.YtfbalpkjcfdakaaGreatDoor
open Go.RowKit
set_option linter.unusedVariables false
set_option linter.unusedSimpArgs false

section
variable {F : Fence} {n : Nat} {P : Program} {md : Region.Mode} {ops : Array Oper} {Q : Exit → Act → World → Prop} {S : World → Prop} {tl : Nat → Bool}
/-- As wpAnyR; behind an operation of the tail S is not owed. -/
def wpAnyT (F : Fence) (n : Nat) (P : Program) (md : Region.Mode) (ops : Array Oper) (Q : Exit → Act → World → Prop) (S : World → Prop) (tl : Nat → Bool) : Nat → Array Bool → Act → World → Prop
  | 0, listed, a, w => Region.ready md ops listed = [] ∧ Q .normal a w
  | fuel + 1, listed, a, w =>
    (Region.ready md ops listed = [] → Q .normal a w) ∧
    ∀ i ∈ Region.ready md ops listed, wpOpIn F n P ops Q i (fun a' w' => (tl i = false → S w') ∧ wpAnyT F n P md ops Q S tl fuel (listed.setIfInBounds i true) a' w') a w
theorem wpAny_of_T : ∀ (fuel : Nat) (listed : Array Bool) (a : Act) (w : World), wpAnyT F n P md ops Q S tl fuel listed a w → wpAnyIn F n P md ops Q fuel listed a w
  | 0, _, _, _, h => h
  | fuel + 1, _, _, _, h => ⟨h.1, fun i hi => wpOpIn_mono (fun a' w' h' => wpAny_of_T fuel _ a' w' h'.2) (h.2 i hi)⟩
theorem wpAnyT_first {i : Nat} {oi : Oper} {v : Value} (hs : ∀ (j : Nat) (o : Oper), ops[j]? = some o → ∀ ρ, o.semAt F.round ρ = execOp ρ o) (hi : ops[i]? = some oi)
    (hsel : ∀ (j : Nat) (o : Oper) cs b, ops[j]? = some o → o.op ≠ .select cs b) (hQ : ∀ c a w, Q (.panic c) (a.put oi.dst v) w → Q (.panic c) a w)
    (htl : ∀ j oj, ops[j]? = some oj → tl j = true → j ≠ i → ∃ e ∈ oj.after, Region.binds md e = true ∧ e.on = i) :
    ∀ (fuel : Nat) (listed : Array Bool) (a : Act) (w : World),
      (∀ j oj, ops[j]? = some oj → j ≠ i → listed.getD j true = false → (∀ e ∈ oj.after, Region.binds md e = true → e.on ≠ i) → oi.apart ops oj = true) →
      i ∈ Region.ready md ops listed → YieldsR P ops S oi v a → S w →
      wpAnyT F n P md ops Q S tl fuel (listed.setIfInBounds i true) (a.put oi.dst v) w → wpAnyT F n P md ops Q S tl (fuel + 1) listed a w := by
  intro fuel
  induction fuel with
  | zero =>
    intro listed a w _ hr hy hS H
    refine ⟨fun h => (by rw [h] at hr; cases hr), fun j hj => ?_⟩
    by_cases hji : j = i
    · subst hji; exact hy.wpOp (hs _ _ hi) hi hS ⟨fun _ => hS, H⟩
    · have := ready_mono hj hji
      rw [H.1] at this
      cases this
  | succ fuel ih =>
    intro listed a w hfree hr hy hS H
    refine ⟨fun h => (by rw [h] at hr; cases hr), fun j hj => ?_⟩
    by_cases hji : j = i
    · subst hji; exact hy.wpOp (hs _ _ hi) hi hS ⟨fun _ => hS, H⟩
    · have h1 := H.2 j (ready_mono hj hji)
      obtain ⟨hjun, oj, hoj, hall⟩ := mem_ready.1 hj
      have hnot : ∀ e ∈ oj.after, Region.binds md e = true → e.on ≠ i := fun e he hb heq => by
        have h1 := hall e he hb
        have h0 := (mem_ready.1 hr).1
        rw [heq] at h1
        rcases Nat.lt_or_ge i listed.size with h' | h'
        · simp [h'] at h0 h1; rw [h0] at h1; cases h1
        · simp [Array.getElem?_eq_none h'] at h1
      have hnt : tl j = false := by
        cases e : tl j with
        | false => rfl
        | true =>
          obtain ⟨e', h2, h3, h4⟩ := htl j oj hoj e hji
          exact absurd h4 (hnot e' h2 h3)
      have h2 := wpOp_putR (hs _ _ hoj) hoj (hfree j oj hoj hji hjun hnot) (fun cs b => hsel i oi cs b hi) (fun cs b => hsel j oj cs b hoj) hQ hy h1
      have hfree' : ∀ k ok, ops[k]? = some ok → k ≠ i → (listed.setIfInBounds j true).getD k true = false →
          (∀ e ∈ ok.after, Region.binds md e = true → e.on ≠ i) → oi.apart ops ok = true := fun k ok hk hki hun hno => by
        refine hfree k ok hk hki ?_ hno
        by_cases hjk : j = k
        · subst hjk; exact hjun
        · rw [getD_set_ne true hjk] at hun; exact hun
      refine wpOpIn_mono (fun a' w' h3 => ⟨h3.2.1, ih (listed.setIfInBounds j true) a' w' hfree' (ready_mono hr (Ne.symm hji)) h3.1 (h3.2.1 hnt) ?_⟩) h2
      rw [Array.setIfInBounds_comm _ _ hji]
      exact h3.2.2
/-- Every operation of the tail waits for operation i. -/
def tailAfter (md : Region.Mode) (ops : Array Oper) (tl : Nat → Bool) (i : Nat) : Bool :=
  (List.range ops.size).all fun j => !tl j || j == i || (match ops[j]? with | none => true | some o => o.after.any fun e => Region.binds md e && e.on == i)
theorem tailAfter_spec {i : Nat} (h : tailAfter md ops tl i = true) : ∀ j oj, ops[j]? = some oj → tl j = true → j ≠ i → ∃ e ∈ oj.after, Region.binds md e = true ∧ e.on = i := fun j oj hj ht hne => by
  have hlt : j < ops.size := (Array.getElem?_eq_some_iff.1 hj).1
  unfold tailAfter at h
  rw [List.all_eq_true] at h
  have := h j (List.mem_range.2 hlt)
  rw [ht, hj] at this
  have e : (j == i) = false := by simpa using hne
  simp only [Bool.not_true, Bool.false_or, e, Array.any_eq_true'] at this
  obtain ⟨x, h1, h2⟩ := this
  rw [Bool.and_eq_true, beq_iff_eq] at h2
  exact ⟨x, h1, h2.1, h2.2⟩
theorem noDef_semF (F : Fence) (h : noDef ops = true) {j : Nat} {o : Oper} (hj : ops[j]? = some o) (ρ : Operand → Value) : o.semAt F.round ρ = execOp ρ o := by
  refine Oper.semAt_plain F ρ o fun c hc => ?_
  have := (Array.all_eq_true_iff_forall_mem.1 h) o (Array.mem_of_getElem? hj)
  rw [hc] at this
  simp at this
/-- Operation i first. -/
theorem takeT {i : Nat} {oi : Oper} {fuel : Nat} {listed : Array Bool} {a : Act} {w : World} (v : Value) (hi : ops[i]? = some oi) (hd : noDef ops = true)
    (hs : Region.noSelect ops = true) (hf : Region.free md ops listed i = true) (hr : (Region.ready md ops listed).contains i = true) (ht : tailAfter md ops tl i = true)
    (hQ : ∀ c a w, Q (.panic c) (a.put oi.dst v) w → Q (.panic c) a w) (hw : Region.wanted oi (yielded ops a.tmps) = true) (hy : ∀ w, S w → (execOp a.eval oi).run P w = .ok (.value v) w) (hb : ∀ w, oi.about P w a.eval = none) (hS : S w)
    (h : wpAnyT F n P md ops Q S tl fuel (listed.setIfInBounds i true) (a.put oi.dst v) w) : wpAnyT F n P md ops Q S tl (fuel + 1) listed a w :=
  wpAnyT_first (fun j o hj ρ => noDef_semF F hd hj ρ) hi (Region.noSelect_spec hs) hQ (tailAfter_spec ht) fuel listed a w (Region.free_spec hi hf) (by simpa using hr) ⟨.inl ⟨hw, hy⟩, hb⟩ hS h
/-- The one operation that may come up, of the tail. -/
theorem oneT {i : Nat} {fuel : Nat} {listed : Array Bool} {a : Act} {w : World} (hr : Region.ready md ops listed = [i]) (ht : tl i = true)
    (h : wpOpIn F n P ops Q i (fun a' w' => wpAnyT F n P md ops Q S tl fuel (listed.setIfInBounds i true) a' w') a w) : wpAnyT F n P md ops Q S tl (fuel + 1) listed a w :=
  ⟨fun h0 => (by rw [hr] at h0; cases h0), fun j hj => (by rw [hr] at hj; rw [List.mem_singleton.1 hj]; exact wpOpIn_mono (fun a' w' h' => ⟨fun h0 => (by rw [ht] at h0; cases h0), h'⟩) h)⟩
/-- The one operation that may come up, not of the tail. -/
theorem oneN {i : Nat} {fuel : Nat} {listed : Array Bool} {a : Act} {w : World} (hr : Region.ready md ops listed = [i])
    (h : wpOpIn F n P ops Q i (fun a' w' => S w' ∧ wpAnyT F n P md ops Q S tl fuel (listed.setIfInBounds i true) a' w') a w) : wpAnyT F n P md ops Q S tl (fuel + 1) listed a w :=
  ⟨fun h0 => (by rw [hr] at h0; cases h0), fun j hj => (by rw [hr] at hj; rw [List.mem_singleton.1 hj]; exact wpOpIn_mono (fun a' w' h' => ⟨fun _ => h'.1, h'.2⟩) h)⟩
theorem doneT {listed : Array Bool} {a : Act} {w : World} (hr : Region.ready md ops listed = []) (h : Q .normal a w) : ∀ fuel, wpAnyT F n P md ops Q S tl fuel listed a w
  | 0 => ⟨hr, h⟩
  | _ + 1 => ⟨fun _ => h, by rw [hr]; simp⟩
theorem regionT {id : Nat} {a : Act} {w : World} (hm : P.follows .mixedOrders = true)
    (h : wpAnyT F n P .any ops Q S tl ops.size (Array.replicate ops.size false) a w.drew) : (Code.region id ops true).wpIn F n P Q a w :=
  wpIn_region_any hm (wpAny_of_T _ _ _ _ h)
end
/-- An append whose run is known. -/
theorem wpIn_append_run {F : Fence} {n : Nat} {P : Program} {o : Oper} {a : Act} {w : World} {K : Act → World → Prop} {Q : Exit → Act → World → Prop} (s x : Operand) (t : TypeId) (ho : o.op = .call { callee := .builtin .append, args := #[s, x], argTypes := #[t, t] })
    {v u v' : Value} {w' : World} (hs : a.eval s = v) (hx : a.eval x = u) (hr : (Builtin.append_ #[t, t] o.type #[v, u]).run P w = .ok v' w') (h : K (a.put o.dst v') w') : o.wpIn F n P a w K Q := by
  unfold Oper.wpIn
  refine ⟨by simp [Oper.about, ho, resolve, Target.leads, Sem.run_pure], ?_⟩
  rw [Oper.semAt_plain F _ _ (by rw [ho]; intro c hc'; cases hc')]
  simp [execOp, ho, resolve, invoke, builtin, hs, hx, hr, Result.andThen]
  exact h
end Go.Proofs.YtfbalpkjcfdakaaGreatDoor
