/- The program's orientation of a word. -/
import Derived.Test.YtlbanaoabifaiaaDoorTrWord
import Derived.Test.YtlbanaoabifaiaaDoorPaA
namespace Go.Proofs.YtlbanaoabifaiaaDoor
open Go.RowKit
set_option linter.unusedVariables false
set_option linter.unusedSimpArgs false

def ORes (s : ByteArray) (e : Ending) : Prop := ∃ o : Int, e = .returned (.int .i64 o) ∧ ∀ u : Nat, u < 8 → s = wordB u → o = u
theorem eqO (u s : ByteArray) : (u = s ∧ (u.toList == s.toList) = true) ∨ (u ≠ s ∧ (u.toList == s.toList) = false) := by
  by_cases h : u = s
  · exact .inl ⟨h, by rw [h]; exact beq_self_eq_true _⟩
  · refine .inr ⟨h, ?_⟩
    rw [beq_eq_false_iff_ne]
    intro e
    rw [Lib.toList_data, Lib.toList_data] at e
    exact h (toList_inj e)
theorem wordN (o : Nat) (w : World) (h : o < 8) : Calls Tryd.prog 28 #[.int .i64 o] w fun e w' => e = .returned (.string (wordB o)) ∧ Below w.heap.size w w' := word_any o w (by omega) (by omega)

set_option maxHeartbeats 4000000 in
theorem orientationOfWord_any (s : ByteArray) (w : World) : Calls Tryd.prog 25 #[.string s] w fun e w' => ORes s e ∧ Below w.heap.size w w' := by
  go_enter Tryd.func25, Tryd.ntmps25
  go_wp2_with fail
  go_loopw [4] (fun o wr => ∃ k : Nat, k ≤ 8 ∧ o = .int .i64 k ∧ Below w.heap.size w wr ∧ ∀ u : Nat, u < k → s ≠ wordB u) (fun o _ => 8 - (intOf o).toNat)
  case atStart => exact ⟨0, by omega, rfl, Below.refl _ _, fun u h => by omega⟩
  case round =>
    obtain ⟨k, hk, rfl, hb, hn⟩ := hrel
    have HN := Lib.hid hn
    clear hn
    by_cases hlt : k < 8
    · have q0 : (k : Int) < 8 := by omega
      rcases eqO (wordB k) s with ⟨he, he'⟩ | ⟨he, he'⟩
      · have hG : ORes s (.returned (.int .i64 k)) := ⟨k, rfl, fun u hu hs => by
          have := word_inj (a := k) (b := u) hlt hu (he.trans hs)
          omega⟩
        clear he
        go_wp2_with (go_at_call 28; refine (wordN k _ hlt).mono ?_; rintro e w1 ⟨rfl, hb1⟩)
        go_ret
        exact ⟨hG, hb.trans (hb1.mono hb.size)⟩
      · have HE := Lib.hid he
        clear he
        go_wp2_with (go_at_call 28; refine (wordN k _ hlt).mono ?_; rintro e w1 ⟨rfl, hb1⟩)
        go_roundw
        case rel => exact ⟨k + 1, by omega, by go_num, hb.trans (hb1.mono hb.size), fun u hu hs => by
          by_cases e : u = k
          · subst e; exact HE.out hs.symm
          · exact HN.out u (by omega) hs⟩
        case measure => simp [intOf]; omega
    · have q0 : ¬ (k : Int) < 8 := by omega
      have hG : ORes s (.returned (.int .i64 (-1))) := ⟨-1, rfl, fun u hu hs => absurd hs (HN.out u (by omega))⟩
      go_wp2_with fail
      go_ret
      exact ⟨hG, hb⟩
end Go.Proofs.YtlbanaoabifaiaaDoor
