/- The model's edge of a side. Condition: the flags are in memory. -/
import Derived.Test.YtmabdemdapnmkaaDoorEgB
namespace Go.Proofs.YtmabdemdapnmkaaDoor
open Go.RowKit
set_option linter.unusedVariables false
set_option linter.unusedSimpArgs false
attribute [local go_sem ↓] Go.wp_at_zero Go.wp_at_succ

/-- The number in a cell. -/
def cellI (w : World) (b o : Nat) : Int := match w.cell? ⟨b, o, none⟩ with | some (.int _ q) => q | _ => 0
theorem cellI_eq {w : World} {b o : Nat} {k : IntKind} {q : Int} (h : w.cell? ⟨b, o, none⟩ = some (.int k q)) : cellI w b o = q := by simp [cellI, h]
def LoI (f : Nat → Bool) (o : Nat) (c t lo : Int) : Prop := -40 ≤ lo ∧ lo ≤ t ∧ ∀ s, lo ≤ s → s ≤ t → gS f o c s = true
def HiI (f : Nat → Bool) (o : Nat) (c t hi : Int) : Prop := t < hi ∧ hi ≤ 40 ∧ ∀ s, t ≤ s → s < hi → gS f o c s = true
theorem LoI.next {f : Nat → Bool} {o : Nat} {c t lo : Int} (h : LoI f o c t lo) (hg : gS f o c (lo - 1) = true) : LoI f o c t (lo - 1) :=
  ⟨(gS_t hg).1.1, by have := h.2.1; omega, fun s h1 h2 => by
    by_cases e : s = lo - 1
    · rw [e]; exact hg
    · exact h.2.2 s (by omega) h2⟩
theorem HiI.next {f : Nat → Bool} {o : Nat} {c t hi : Int} (h : HiI f o c t hi) (hg : gS f o c hi = true) : HiI f o c t (hi + 1) :=
  ⟨by have := h.1; omega, by have := gS_t hg; omega, fun s h1 h2 => by
    by_cases e : s = hi
    · rw [e]; exact hg
    · exact h.2.2 s h1 (by omega)⟩
theorem MaxI.of {f : Nat → Bool} {o : Nat} {c t lo hi : Int} (h : LoI f o c t lo) (k : HiI f o c t hi) (h1 : gS f o c (lo - 1) = false) (k1 : gS f o c hi = false) : MaxI (gS f o c) lo hi :=
  ⟨by have := h.2.1; have := k.1; omega, fun s s1 s2 => by
    by_cases e : s ≤ t
    · exact h.2.2 s s1 e
    · exact k.2.2 s (by omega) s2, h1, k1⟩

end Go.Proofs.YtmabdemdapnmkaaDoor
