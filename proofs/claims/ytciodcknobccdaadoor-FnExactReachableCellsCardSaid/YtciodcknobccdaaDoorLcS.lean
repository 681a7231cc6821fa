/- What the laws' marks keep of lists of numbers. Conditions: the list lies below, or above, of the rows that are marked. -/
import Derived.Test.YtciodcknobccdaaDoorLcR
namespace Go.Proofs.YtciodcknobccdaaDoor
open Go.RowKit
set_option linter.unusedVariables false
set_option linter.unusedSimpArgs false

/-- A list that may be marked: its row lies from lo to hi. -/
def RowOK (lo hi : Nat) (w : World) (a : Option Addr) (n : Nat) : Prop := n = 0 ∨ ∃ g, a = some ⟨g, 0, none⟩ ∧ lo ≤ g ∧ g < hi ∧ ∀ o, o < n → NsAt w ⟨g, o, none⟩
theorem RowOK.step {lo hi l2 h2 : Nat} {w w' : World} {a : Option Addr} {n : Nat} (h : RowOK lo hi w a n) (s : St l2 h2 w w') : RowOK lo hi w' a n := by
  rcases h with h | ⟨g, h1, h2, h3, h4⟩
  · exact .inl h
  · exact .inr ⟨g, h1, h2, h3, fun o ho => s.ns _ (h4 o ho)⟩
theorem RowOK.low {lo l2 hi : Nat} {w : World} {a : Option Addr} {n : Nat} (h : RowOK lo hi w a n) (hl : l2 ≤ lo) : RowOK l2 hi w a n := by
  rcases h with h | ⟨g, h1, h2, h3, h4⟩
  · exact .inl h
  · exact .inr ⟨g, h1, Nat.le_trans hl h2, h3, h4⟩
theorem IntsIs.mono {B C : Nat} {w : World} {a : Option Addr} {xs : List Int} (h : IntsIs B w a xs) (hB : B ≤ C) : IntsIs C w a xs := h.kept (fun _ _ => rfl) hB
theorem IntsIs.st {B lo hi : Nat} {w w' : World} {a : Option Addr} {xs : List Int} (h : IntsIs B w a xs) (s : St lo hi w w') (hB : B ≤ w.heap.size) (hg : B ≤ lo) : IntsIs B w' a xs :=
  h.kept (fun p hp => World.cell?_of_block (w := w) (s.out p.block (by omega) (by omega))) (Nat.le_refl _)
theorem IntsIs.stHi {lo hi l2 h2 : Nat} {w w' v : World} {a : Option Addr} {xs : List Int} (h : IntsIs w.heap.size w a xs) (s : St lo hi w w') (hr : RowOK l2 h2 v a xs.length) (hl : hi ≤ l2) : IntsIs w'.heap.size w' a xs := fun i z hi2 => by
  obtain ⟨g, off, h1, h3, h4⟩ := h i z hi2
  have hx := get_lt hi2
  rcases hr with e | ⟨g', e, hg, _⟩
  · omega
  · have e1 : g' = g := by rw [e] at h1; cases h1; rfl
    exact ⟨g, off, h1, Nat.lt_of_lt_of_le h3 s.size, (World.cell?_of_block (w := w) (s.out g h3 (by omega))).trans h4⟩
theorem St.below {B lo hi : Nat} {w w1 w2 : World} (s : St lo hi w1 w2) (h : Below B w w1) (hB : B ≤ lo) (hw : B ≤ w1.heap.size) : Below B w w2 :=
  h.trans ⟨s.os, s.tape, s.output, s.size, fun k hk => s.out k (by omega) (by omega)⟩
theorem usV_len (L : List Cel) (k : Int) : (usV L k).length ≤ L.length := by
  cases h : hasC L k
  · rw [usV_no h]; simp
  · rw [usV_yes h]; exact usF_len L k _
end Go.Proofs.YtciodcknobccdaaDoor
