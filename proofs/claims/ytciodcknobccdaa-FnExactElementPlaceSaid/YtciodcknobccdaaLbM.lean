/- Valid libraries, by truth values; sums over a list; totals over a library. No condition. -/
import Derived.Test.YtciodcknobccdaaLbA
namespace Go.Proofs.Ytciodcknobccdaa
open Go.RowKit
set_option linter.unusedVariables false

/-- Do the first i things of a list pass? -/
def alF {α : Type} (p : α → Bool) (l : List α) (i : Nat) : Bool := (l.take i).all p
theorem alF_zero {α : Type} (p : α → Bool) (l : List α) : alF p l 0 = true := by simp [alF]
theorem alF_succ {α : Type} {p : α → Bool} {l : List α} {i : Nat} {s : α} (h : l[i]? = some s) : alF p l (i + 1) = (alF p l i && p s) := by
  unfold alF
  rw [List.take_add_one, h]
  simp
theorem alF_full {α : Type} (p : α → Bool) (l : List α) : alF p l l.length = l.all p := by unfold alF; rw [List.take_length]
theorem all_f {α : Type} {p : α → Bool} {l : List α} {i : Nat} {s : α} (h : l[i]? = some s) (hp : p s = false) : l.all p = false := by
  rw [List.all_eq_false]
  exact ⟨s, List.mem_of_getElem? h, by simp [hp]⟩
theorem alF_f {α : Type} {p : α → Bool} {l : List α} {i n : Nat} {s : α} (h : l[i]? = some s) (hi : i < n) (hp : p s = false) : alF p l n = false := by
  unfold alF
  refine all_f (i := i) (s := s) ?_ hp
  rw [List.getElem?_take, if_pos hi, h]
theorem all_at {α : Type} {p : α → Bool} {l : List α} (h : l.all p = true) {i : Nat} {s : α} (hi : l[i]? = some s) : p s = true := List.all_eq_true.1 h s (List.mem_of_getElem? hi)
theorem get_some {α : Type} {l : List α} {i : Nat} (h : i < l.length) : ∃ s, l[i]? = some s := ⟨_, List.getElem?_eq_getElem h⟩
theorem get_lt {α : Type} {l : List α} {i : Nat} {s : α} (h : l[i]? = some s) : i < l.length := (List.getElem?_eq_some_iff.1 h).1

/-- Is a byte a lowercase letter or a digit? -/
def nbB (b : UInt8) : Bool := decide (97 ≤ b.toNat ∧ b.toNat ≤ 122) || decide (48 ≤ b.toNat ∧ b.toNat ≤ 57)
def nmB (s : ByteArray) : Bool := decide (1 ≤ s.size ∧ s.size ≤ 8) && s.data.toList.all nbB
def shpB (s : Shp) : Bool := inB s.l 0 7 && rvB s.x s.y s.u s.v
def lblB (s : Lbl) : Bool := inB s.l 0 7 && (inB s.x (-40) 39 && inB s.y (-40) 39) && nmB s.s
def stpB (m p : Int) : Bool := inB m 1 4 && inB p (-80) 80 && (decide (1 < m) || decide (p = 0))
def insB (k : Int) (s : Ins) : Bool := inB s.c 0 (k - 1) && vldB s.o s.x s.y && (stpB s.m s.p && stpB s.n s.q)
def celB (k : Int) (c : Cel) : Bool := nmB c.s && (decide (c.a.length ≤ 24) && decide (c.b.length ≤ 8) && decide (c.d.length ≤ 8)) && (c.a.all shpB && c.b.all lblB && c.d.all (insB k))
/-- Is the name new among the first i cells? -/
def newB (L : List Cel) (i : Nat) (s : ByteArray) : Bool := alF (fun c => !decide (c.s = s)) L i
def atB (L : List Cel) (i : Nat) : Bool := match L[i]? with | some c => celB i c && newB L i c.s | none => true
/-- Are the first n cells valid? -/
def upB (L : List Cel) (n : Nat) : Bool := (List.range n).all (atB L)
def libB (L : List Cel) : Bool := decide (1 ≤ L.length ∧ L.length ≤ 8) && upB L L.length
theorem upB_zero (L : List Cel) : upB L 0 = true := rfl
theorem upB_succ (L : List Cel) (n : Nat) : upB L (n + 1) = (upB L n && atB L n) := by unfold upB; rw [List.range_succ, List.all_append]; simp
theorem upB_f {L : List Cel} {n i : Nat} (hi : i < n) (h : atB L i = false) : upB L n = false := by
  unfold upB
  rw [List.all_eq_false]
  exact ⟨i, List.mem_range.2 hi, by simp [h]⟩
theorem atB_at {L : List Cel} {i : Nat} {c : Cel} (h : L[i]? = some c) : atB L i = (celB i c && newB L i c.s) := by unfold atB; rw [h]
theorem lib_at {L : List Cel} (h : libB L = true) {i : Nat} {c : Cel} (hi : L[i]? = some c) : celB i c = true ∧ newB L i c.s = true := by
  unfold libB at h
  rw [Bool.and_eq_true] at h
  have h2 := h.2
  unfold upB at h2
  have h3 := List.all_eq_true.1 h2 i (List.mem_range.2 (get_lt hi))
  rw [atB_at hi, Bool.and_eq_true] at h3
  exact h3
theorem lib_len {L : List Cel} (h : libB L = true) : 1 ≤ L.length ∧ L.length ≤ 8 := by
  unfold libB at h
  rw [Bool.and_eq_true] at h
  exact of_decide_eq_true h.1
theorem lib_lens {L : List Cel} (h : libB L = true) {i : Nat} {c : Cel} (hi : L[i]? = some c) : c.a.length ≤ 24 ∧ c.b.length ≤ 8 ∧ c.d.length ≤ 8 ∧ c.s.size ≤ 8 := by
  have h1 := (lib_at h hi).1
  unfold celB nmB at h1
  simp only [Bool.and_eq_true, decide_eq_true_eq] at h1
  exact ⟨h1.1.2.1.1, h1.1.2.1.2, h1.1.2.2, h1.1.1.1.2⟩
theorem lib_ins {L : List Cel} (h : libB L = true) {i j : Nat} {c : Cel} {s : Ins} (hi : L[i]? = some c) (hj : c.d[j]? = some s) : (0 ≤ s.c ∧ s.c < i) ∧ (1 ≤ s.m ∧ s.m ≤ 4) ∧ (1 ≤ s.n ∧ s.n ≤ 4) := by
  have h1 := (lib_at h hi).1
  unfold celB at h1
  have h2 := all_at (Bool.and_eq_true_iff.1 (Bool.and_eq_true_iff.1 h1).2).2 hj
  unfold insB stpB inB at h2
  simp only [Bool.and_eq_true, decide_eq_true_eq] at h2
  obtain ⟨⟨h3, _⟩, ⟨⟨h4, _⟩, _⟩, ⟨h5, _⟩, _⟩ := h2
  exact ⟨⟨h3.1, by omega⟩, h4, h5⟩

/-- The numbers of the first i cells, each made from the first by taking in its instances one by one. -/
def accF (add : Int → Ins → Int → Int) (V : Nat → Int) (l : List Ins) (first : Int) (k : Nat) : Int := (l.take k).foldl (fun a s => add a s (V s.c.toNat)) first
theorem accF_zero (add : Int → Ins → Int → Int) (V : Nat → Int) (l : List Ins) (first : Int) : accF add V l first 0 = first := by simp [accF]
theorem accF_succ {add : Int → Ins → Int → Int} {V : Nat → Int} {l : List Ins} {first : Int} {k : Nat} {s : Ins} (h : l[k]? = some s) : accF add V l first (k + 1) = add (accF add V l first k) s (V s.c.toNat) := by
  unfold accF
  rw [List.take_add_one, h]
  simp
def totV (add : Int → Ins → Int → Int) (first : Int) (L : List Cel) : Nat → Nat → Int
  | 0 => fun _ => 0
  | i + 1 => fun j => if j = i then (match L[i]? with | some c => accF add (totV add first L i) c.d first c.d.length | none => 0) else totV add first L i j
theorem totV_same {add : Int → Ins → Int → Int} {first : Int} {L : List Cel} {i : Nat} {c : Cel} (h : L[i]? = some c) : totV add first L (i + 1) i = accF add (totV add first L i) c.d first c.d.length := by
  simp [totV, h]
theorem totV_keep (add : Int → Ins → Int → Int) (first : Int) (L : List Cel) {i j : Nat} (h : j < i) : ∀ n, i ≤ n → totV add first L n j = totV add first L i j := by
  intro n hn
  induction n with
  | zero => omega
  | succ n ih =>
    by_cases e : i = n + 1
    · rw [e]
    · have e2 : totV add first L (n + 1) j = totV add first L n j := by simp only [totV]; rw [if_neg (by omega)]
      rw [e2]
      exact ih (by omega)
def dpAdd (a : Int) (s : Ins) (v : Int) : Int := max a (1 + v)
def ctAdd (a : Int) (s : Ins) (v : Int) : Int := a + s.m * s.n * v
theorem dp_acc {V : Nat → Int} {l : List Ins} {i : Nat} (hV : ∀ j, j < i → 0 ≤ V j ∧ V j ≤ j) (hl : ∀ (j : Nat) (s : Ins), l[j]? = some s → 0 ≤ s.c ∧ s.c < i) : ∀ k, k ≤ l.length → 0 ≤ accF dpAdd V l 0 k ∧ accF dpAdd V l 0 k ≤ i := by
  intro k hk
  induction k with
  | zero => rw [accF_zero]; omega
  | succ k ih =>
    obtain ⟨s, hs⟩ := get_some (l := l) (i := k) (by omega)
    have h1 := ih (by omega)
    have h2 := hl k s hs
    have h3 := hV s.c.toNat (by omega)
    rw [accF_succ hs, show ∀ a v, dpAdd a s v = max a (1 + v) from fun _ _ => rfl]
    omega
theorem dp_bound {L : List Cel} (h : libB L = true) : ∀ i, i ≤ L.length → ∀ j, j < i → 0 ≤ totV dpAdd 0 L i j ∧ totV dpAdd 0 L i j ≤ j := by
  intro i
  induction i with
  | zero => intro _ j hj; omega
  | succ i ih =>
    intro hi j hj
    by_cases e : j = i
    · subst e
      obtain ⟨c, hc⟩ := get_some (l := L) (i := j) (by omega)
      rw [totV_same hc]
      exact dp_acc (ih (by omega)) (fun k s hk => (lib_ins h hc hk).1) _ (Nat.le_refl _)
    · have e2 : ∀ add first, totV add first L (i + 1) j = totV add first L i j := fun add first => by simp only [totV]; rw [if_neg e]
      rw [e2]
      exact ih (by omega) j (by omega)
/-- 1, 129, 129 * 129, ... -/
def p129 : Nat → Int
  | 0 => 1
  | n + 1 => 129 * p129 n
theorem p129_pos : ∀ n, 1 ≤ p129 n
  | 0 => by decide
  | n + 1 => by have := p129_pos n; unfold p129; omega
theorem p129_mono {i j : Nat} (h : i ≤ j) : p129 i ≤ p129 j := by
  induction j with
  | zero => obtain rfl : i = 0 := by omega
            exact Int.le_refl _
  | succ j ih =>
    by_cases e : i = j + 1
    · rw [e]; exact Int.le_refl _
    · have h1 := ih (by omega)
      have h2 := p129_pos j
      show p129 i ≤ 129 * p129 j
      omega
theorem p129_top {i : Nat} (h : i ≤ 8) : p129 i ≤ 76686282021340161 := by
  have := p129_mono h
  have e : p129 8 = 76686282021340161 := by decide
  omega
theorem ct_acc {V : Nat → Int} {l : List Ins} {i : Nat} (hlen : l.length ≤ 8) (hV : ∀ j, j < i + 1 → 1 ≤ V j ∧ V j ≤ p129 j) (hl : ∀ (j : Nat) (s : Ins), l[j]? = some s → (0 ≤ s.c ∧ s.c < (i + 1 : Nat)) ∧ (1 ≤ s.m ∧ s.m ≤ 4) ∧ (1 ≤ s.n ∧ s.n ≤ 4)) : ∀ k, k ≤ l.length → 1 ≤ accF ctAdd V l 1 k ∧ accF ctAdd V l 1 k ≤ 1 + 16 * k * p129 i := by
  intro k hk
  induction k with
  | zero => rw [accF_zero]; omega
  | succ k ih =>
    obtain ⟨s, hs⟩ := get_some (l := l) (i := k) (by omega)
    have h1 := ih (by omega)
    obtain ⟨h2, hm, hn⟩ := hl k s hs
    have h3 := hV s.c.toNat (by omega)
    have h4 := p129_mono (show s.c.toNat ≤ i by omega)
    rw [accF_succ hs, show ∀ a v, ctAdd a s v = a + s.m * s.n * v from fun _ _ => rfl]
    generalize V s.c.toNat = v at h3 ⊢
    have b0 : 1 ≤ s.m * s.n := Int.le_trans (by decide) (Int.mul_le_mul hm.1 hn.1 (by decide) (by omega))
    have b1 : s.m * s.n ≤ 16 := Int.le_trans (Int.mul_le_mul hm.2 hn.2 (by omega) (by decide)) (by decide)
    have b2 : 1 ≤ s.m * s.n * v := Int.le_trans (by decide) (Int.mul_le_mul b0 h3.1 (by decide) (by omega))
    have b3 : s.m * s.n * v ≤ 16 * p129 i := Int.mul_le_mul b1 (by omega) (by omega) (by decide)
    have e : (16 : Int) * ((k + 1 : Nat) : Int) * p129 i = 16 * k * p129 i + 16 * p129 i := by
      rw [show (16 : Int) * ((k + 1 : Nat) : Int) = 16 * k + 16 by omega, Int.add_mul]
    rw [e]
    omega
theorem ct_bound {L : List Cel} (h : libB L = true) : ∀ i, i ≤ L.length → ∀ j, j < i → 1 ≤ totV ctAdd 1 L i j ∧ totV ctAdd 1 L i j ≤ p129 j := by
  intro i
  induction i with
  | zero => intro _ j hj; omega
  | succ i ih =>
    intro hi j hj
    by_cases e : j = i
    · subst e
      obtain ⟨c, hc⟩ := get_some (l := L) (i := j) (by omega)
      rw [totV_same hc]
      cases j with
      | zero =>
        have hd : c.d.length = 0 := by
          cases hz : c.d with
          | nil => rfl
          | cons s r => have := (lib_ins h hc (show c.d[0]? = some s by rw [hz]; rfl)).1; omega
        rw [hd, accF_zero]
        decide
      | succ j =>
        have hl := (lib_lens h hc).2.2.1
        have := ct_acc (i := j) hl (ih (by omega)) (fun k s hk => lib_ins h hc hk) _ (Nat.le_refl _)
        have hp := p129_pos j
        have e2 : p129 (j + 1) = 129 * p129 j := rfl
        refine ⟨this.1, Int.le_trans this.2 ?_⟩
        rw [e2]
        have : (16 : Int) * (c.d.length : Int) * p129 j ≤ 128 * p129 j := Int.mul_le_mul (by omega) (Int.le_refl _) (by omega) (by decide)
        omega
    · have e2 : ∀ add first, totV add first L (i + 1) j = totV add first L i j := fun add first => by simp only [totV]; rw [if_neg e]
      rw [e2]
      exact ih (by omega) j (by omega)
end Go.Proofs.Ytciodcknobccdaa
