/- Trees of rectangles: parents, roots, unions. No program's run in it. -/
import Derived.Test.YtepfnnhmplaocaaDoorCpE
namespace Go.Proofs.YtepfnnhmplaocaaDoor
open Go.RowKit
set_option linter.unusedVariables false
set_option linter.unusedSimpArgs false

def updF (p : Nat → Nat) (i v : Nat) (x : Nat) : Nat := if x = i then v else p x
theorem updF_same (p : Nat → Nat) (i v : Nat) : updF p i v i = v := by unfold updF; rw [if_pos rfl]
theorem updF_other (p : Nat → Nat) {i v x : Nat} (h : x ≠ i) : updF p i v x = p x := by unfold updF; rw [if_neg h]
/-- Parents p, roots K, and numbers d that get less on the way to a root. -/
structure FK (n : Nat) (p K d : Nat → Nat) : Prop where
  p_lt : ∀ i, i < n → p i < n
  K_lt : ∀ i, i < n → K i < n
  Kp : ∀ i, i < n → K (p i) = K i
  pK : ∀ i, i < n → p (K i) = K i
  KK : ∀ i, i < n → K (K i) = K i
  fix : ∀ i, i < n → p i = i → K i = i
  dp : ∀ i, i < n → p i ≠ i → d (p i) < d i
  dK : ∀ i, i < n → K i ≠ i → d (K i) < d i
theorem FK.init (n : Nat) : FK n (fun i => i) (fun i => i) (fun _ => 0) :=
  ⟨fun i h => h, fun i h => h, fun i h => rfl, fun i h => rfl, fun i h => rfl, fun i h k => rfl, fun i h k => absurd rfl k, fun i h k => absurd rfl k⟩
theorem FK.compress {n : Nat} {p K d : Nat → Nat} (h : FK n p K d) {i : Nat} (hi : i < n) : FK n (updF p i (K i)) K d := by
  refine ⟨fun x hx => ?_, h.K_lt, fun x hx => ?_, fun x hx => ?_, h.KK, fun x hx k => ?_, fun x hx k => ?_, h.dK⟩
  · by_cases e : x = i
    · subst e; rw [updF_same]; exact h.K_lt x hx
    · rw [updF_other p e]; exact h.p_lt x hx
  · by_cases e : x = i
    · subst e; rw [updF_same]; exact h.KK x hx
    · rw [updF_other p e]; exact h.Kp x hx
  · by_cases e : K x = i
    · rw [e, updF_same, ← e]; exact h.KK x hx
    · rw [updF_other p e]; exact h.pK x hx
  · by_cases e : x = i
    · subst e; rw [updF_same] at k; exact k
    · rw [updF_other p e] at k; exact h.fix x hx k
  · by_cases e : x = i
    · subst e; rw [updF_same] at k ⊢; exact h.dK x hx k
    · rw [updF_other p e] at k ⊢; exact h.dp x hx k
/-- The roots behind a union: those of a's tree are b. -/
def uniK (K : Nat → Nat) (a b : Nat) (x : Nat) : Nat := if K x = a then b else K x
def uniD (K d : Nat → Nat) (a b : Nat) (x : Nat) : Nat := if K x = a then d x + d b + 1 else d x
theorem uniK_y {K : Nat → Nat} {a b x : Nat} (h : K x = a) : uniK K a b x = b := by unfold uniK; rw [if_pos h]
theorem uniK_n {K : Nat → Nat} {a b x : Nat} (h : K x ≠ a) : uniK K a b x = K x := by unfold uniK; rw [if_neg h]
theorem uniD_y {K d : Nat → Nat} {a b x : Nat} (h : K x = a) : uniD K d a b x = d x + d b + 1 := by unfold uniD; rw [if_pos h]
theorem uniD_n {K d : Nat → Nat} {a b x : Nat} (h : K x ≠ a) : uniD K d a b x = d x := by unfold uniD; rw [if_neg h]
theorem FK.union {n : Nat} {p K d : Nat → Nat} (h : FK n p K d) {a b : Nat} (ha : a < n) (hb : b < n) (ka : K a = a) (kb : K b = b) : ∃ d', FK n (updF p a b) (uniK K a b) d' := by
  by_cases hab : a = b
  · subst hab
    have hp : p a = a := by have := h.pK a ha; rwa [ka] at this
    have e1 : updF p a a = p := by
      funext x
      by_cases e : x = a
      · subst e; rw [updF_same, hp]
      · rw [updF_other p e]
    have e2 : uniK K a a = K := by
      funext x
      by_cases e : K x = a
      · rw [uniK_y e, e]
      · rw [uniK_n e]
    rw [e1, e2]
    exact ⟨d, h⟩
  · have kba : K b ≠ a := by rw [kb]; exact fun e => hab e.symm
    have hpb : p b = b := by have := h.pK b hb; rwa [kb] at this
    refine ⟨uniD K d a b, fun x hx => ?_, fun x hx => ?_, fun x hx => ?_, fun x hx => ?_, fun x hx => ?_, fun x hx k => ?_, fun x hx k => ?_, fun x hx k => ?_⟩
    · by_cases e : x = a
      · rw [e, updF_same]; exact hb
      · rw [updF_other p e]; exact h.p_lt x hx
    · by_cases e : K x = a
      · rw [uniK_y e]; exact hb
      · rw [uniK_n e]; exact h.K_lt x hx
    · by_cases e : x = a
      · rw [e, updF_same, uniK_n kba, uniK_y ka, kb]
      · rw [updF_other p e]
        have hk := h.Kp x hx
        by_cases e2 : K x = a
        · rw [uniK_y (by rw [hk, e2]), uniK_y e2]
        · rw [uniK_n (by rw [hk]; exact e2), uniK_n e2, hk]
    · by_cases e : K x = a
      · rw [uniK_y e, updF_other p (fun k => hab k.symm), hpb]
      · rw [uniK_n e, updF_other p e, h.pK x hx]
    · by_cases e : K x = a
      · rw [uniK_y e, uniK_n kba, kb]
      · rw [uniK_n e]
        have hk := h.KK x hx
        rw [uniK_n (by rw [hk]; exact e), hk]
    · by_cases e : x = a
      · rw [e, updF_same] at k; exact absurd k.symm hab
      · rw [updF_other p e] at k
        have hk := h.fix x hx k
        rw [uniK_n (by rw [hk]; exact e), hk]
    · by_cases e : x = a
      · rw [e, updF_same, uniD_n kba, uniD_y ka]; omega
      · rw [updF_other p e] at k ⊢
        have hk := h.Kp x hx
        have hd := h.dp x hx k
        by_cases e2 : K x = a
        · rw [uniD_y (by rw [hk, e2]), uniD_y e2]; omega
        · rw [uniD_n (by rw [hk]; exact e2), uniD_n e2]; exact hd
    · by_cases e : K x = a
      · rw [uniK_y e, uniD_n kba, uniD_y e]; omega
      · rw [uniK_n e] at k ⊢
        have hk := h.KK x hx
        rw [uniD_n (by rw [hk]; exact e), uniD_n e]
        exact h.dK x hx k
/-- What the unions so far have joined: sound, and complete for the pairs before (i, j). -/
structure UniOK (P Q R S : Nat → Int) (n : Nat) (wide : Bool) (K : Nat → Nat) (i j : Nat) : Prop where
  snd : ∀ a b, a < n → b < n → K a = K b → Conn (covF P Q R S n) wide (P a) (Q a) (P b) (Q b)
  cmp : ∀ a b, a < b → b < n → eJ P Q R S (colW wide) a b → (a < i ∨ a = i ∧ b < j) → K a = K b
theorem UniOK.init {P Q R S : Nat → Int} {n : Nat} {wide : Bool} (h : okR P Q R S n = true) : UniOK P Q R S n wide (fun i => i) 0 1 :=
  ⟨fun a b ha hb e => by
    obtain rfl : a = b := e
    exact .start (inI_has h ha (corner_in h ha)), fun a b hab hb _ k => by omega⟩
theorem UniOK.skip {P Q R S : Nat → Int} {n : Nat} {wide : Bool} {K : Nat → Nat} {i j : Nat} (h : UniOK P Q R S n wide K i j) (hn : ¬ eJ P Q R S (colW wide) i j) : UniOK P Q R S n wide K i (j + 1) :=
  ⟨h.snd, fun a b hab hb he k => by
    by_cases e : a = i ∧ b = j
    · obtain ⟨rfl, rfl⟩ := e; exact absurd he hn
    · exact h.cmp a b hab hb he (by omega)⟩
theorem okR_Q {P Q R S : Nat → Int} {n : Nat} (h : okR P Q R S n = true) {i j : Nat} (hij : i ≤ j) (hj : j < n) : Q i ≤ Q j := by
  rcases Nat.lt_or_ge i j with e | e
  · have hv := rvB_t (okR_all h i (by omega))
    rcases okR_ord h e hj with ⟨o1, _, _⟩ | o <;> omega
  · obtain rfl : i = j := by omega
    exact Int.le_refl _
/-- Behind the last rectangle that begins low enough, and at the end of the list. -/
theorem UniOK.row {P Q R S : Nat → Int} {n : Nat} {wide : Bool} {K : Nat → Nat} {i j : Nat} (h : UniOK P Q R S n wide K i j) (hok : okR P Q R S n = true) (he : n ≤ j ∨ S i < Q j) : UniOK P Q R S n wide K (i + 1) (i + 2) :=
  ⟨h.snd, fun a b hab hb hj k => by
    by_cases e : a < i ∨ a = i ∧ b < j
    · exact h.cmp a b hab hb hj e
    · obtain rfl : a = i := by omega
      have := okR_Q hok (show j ≤ b by omega) hb
      have := hj.1
      omega⟩
theorem UniOK.join {P Q R S : Nat → Int} {n : Nat} {wide : Bool} {K : Nat → Nat} {i j : Nat} (h : UniOK P Q R S n wide K i j) (hok : okR P Q R S n = true) (hij : i < j) (hj : j < n) (he : eJ P Q R S (colW wide) i j) : UniOK P Q R S n wide (uniK K (K j) (K i)) i (j + 1) := by
  have hi : i < n := by omega
  have hc := eJ_conn hok hij hj he
  have heq : ∀ a b, K a = K b → uniK K (K j) (K i) a = uniK K (K j) (K i) b := fun a b e => by unfold uniK; rw [e]
  refine ⟨fun a b ha hb e => ?_, fun a b hab hb he' k => ?_⟩
  · by_cases ea : K a = K j
    · by_cases eb : K b = K j
      · exact h.snd a b ha hb (by rw [ea, eb])
      · rw [uniK_y ea, uniK_n eb] at e
        exact ((h.snd a j ha hj ea).trans hc.symm).trans (h.snd i b hi hb e)
    · by_cases eb : K b = K j
      · rw [uniK_n ea, uniK_y eb] at e
        exact ((h.snd a i ha hi e).trans hc).trans (h.snd j b hj hb eb.symm)
      · rw [uniK_n ea, uniK_n eb] at e
        exact h.snd a b ha hb e
  · by_cases e : a = i ∧ b = j
    · obtain ⟨rfl, rfl⟩ := e
      rw [uniK_y (x := b) rfl]
      by_cases e2 : K a = K b
      · rw [uniK_y e2]
      · rw [uniK_n e2]
    · exact heq a b (h.cmp a b hab hb he' (by omega))
theorem UniOK.roots {P Q R S : Nat → Int} {n : Nat} {wide : Bool} {K : Nat → Nat} {j : Nat} (h : UniOK P Q R S n wide K n j) : RootsOK P Q R S n wide K :=
  ⟨h.snd, fun a b hab hb he => h.cmp a b hab hb he (.inl (by omega))⟩
end Go.Proofs.YtepfnnhmplaocaaDoor
