/- The program's Components, ComponentCount and IsConnected. Conditions: the rectangles' cells are in memory; the tables are in memory. -/
import Derived.Test.YtepfnnhmplaocaaDoorCpP
import Derived.Test.YtepfnnhmplaocaaDoorCpJ
import Derived.Test.YtepfnnhmplaocaaDoorQI
namespace Go.Proofs.YtepfnnhmplaocaaDoor
open Go.RowKit
set_option linter.unusedVariables false
set_option linter.unusedSimpArgs false
attribute [local go_sem ↓] Go.wp_at_zero Go.wp_at_succ

theorem okR_len {P Q R S : Nat → Int} {n : Nat} (h : okR P Q R S n = true) : n ≤ 3200 := by
  unfold okR okV at h
  simp only [Bool.and_eq_true, decide_eq_true_eq] at h
  exact h.1.1.1
theorem implComponents_any (m : Option Addr) (n cap : Nat) (P Q R S : Nat → Int) (w : World) (hn : n ≤ 1048576) (hcap : n ≤ cap) (hD : EnvW w) (hR : RectsIs w.heap.size w m n P Q R S) :
    Calls Tryd.prog 30 #[.slice m n cap] w fun e w' => LLOwn w.heap.size (csL P Q R S n) e w' ∧ Below w.heap.size w w' := by
  have HR := Lib.hid hR
  have HD := Lib.hid hD
  clear hR hD
  have his := fun w' hD' hR' => isRegion_any m n cap P Q R S w' hn hcap hD' hR'
  cases hok : okR P Q R S n with
  | false =>
    have e0 : csL P Q R S n = [] := by unfold csL; rw [if_neg (by simp [hok])]
    rw [e0]
    rw [hok] at his
    clear e0
    go_enter Tryd.func30, Tryd.ntmps30
    go_wp2_with (go_at_call 73; refine (his _ HD.out HR.out).mono ?_; rintro e w1 ⟨rfl, bw1⟩)
    go_ret
    exact ⟨⟨none, 0, [], _, rfl, Nat.le_refl _, LsOwn.nil _ _⟩, bw1⟩
  | true =>
    have e0 : csL P Q R S n = cmpL (covF P Q R S n) false := by unfold csL; rw [if_pos hok]
    rw [e0]
    rw [hok] at his
    have hp := fun w' hD' hR' => partsOf_any m n cap P Q R S false w' (okR_len hok) hD' hR' hok
    rw [show colW false = 1 from rfl] at hp
    obtain ⟨LL, hLL⟩ : ∃ LL, cmpL (covF P Q R S n) false = LL := ⟨_, rfl⟩
    rw [hLL] at hp ⊢
    clear e0 hLL
    go_enter Tryd.func30, Tryd.ntmps30
    go_wp2_with (first | (go_at_call 73; refine (his _ HD.out HR.out).mono ?_; rintro e w1 ⟨rfl, bw1⟩) | (go_at_call 75; refine (hp _ (HD.out.ext bw1) (HR.out.ext bw1)).mono ?_; rintro e w2 ⟨⟨a2, c2, V, g, rfl, k2, h2⟩, bw2⟩; have H2 := Lib.hid h2; clear h2))
    go_ret
    exact ⟨⟨a2, c2, V, g, rfl, k2, H2.out.mono bw1.size⟩, Ext.trans bw1 bw2⟩
theorem implComponentCount_any (m : Option Addr) (n cap : Nat) (P Q R S : Nat → Int) (w : World) (hn : n ≤ 1048576) (hcap : n ≤ cap) (hD : EnvW w) (hR : RectsIs w.heap.size w m n P Q R S) :
    Calls Tryd.prog 25 #[.slice m n cap] w fun e w' => e = .returned (.int .i64 (ccV P Q R S n)) ∧ Below w.heap.size w w' := by
  have HR := Lib.hid hR
  have HD := Lib.hid hD
  clear hR hD
  have his := fun w' hD' hR' => isRegion_any m n cap P Q R S w' hn hcap hD' hR'
  cases hok : okR P Q R S n with
  | false =>
    have e0 : ccV P Q R S n = -1 := by unfold ccV; rw [if_neg (by simp [hok])]
    rw [e0]
    rw [hok] at his
    clear e0
    go_enter Tryd.func25, Tryd.ntmps25
    go_wp2_with (go_at_call 73; refine (his _ HD.out HR.out).mono ?_; rintro e w1 ⟨rfl, bw1⟩)
    go_ret
    exact ⟨rfl, bw1⟩
  | true =>
    have e0 : ccV P Q R S n = ((csL P Q R S n).length : Int) := by unfold ccV csL; rw [if_pos hok, if_pos hok]
    have hlen := csL_len P Q R S n
    rw [e0]
    rw [hok] at his
    have hp := fun w' hD' hR' => implComponents_any m n cap P Q R S w' hn hcap hD' hR'
    obtain ⟨LL, hLL⟩ : ∃ LL, csL P Q R S n = LL := ⟨_, rfl⟩
    rw [hLL] at hp hlen ⊢
    clear e0 hLL
    go_enter Tryd.func25, Tryd.ntmps25
    go_wp2_with (first | (go_at_call 73; refine (his _ HD.out HR.out).mono ?_; rintro e w1 ⟨rfl, bw1⟩) | (go_at_call 30; refine (hp _ (HD.out.ext bw1) (HR.out.ext bw1)).mono ?_; rintro e w2 ⟨⟨a2, c2, V, g, rfl, k2, h2⟩, bw2⟩; clear h2))
    go_ret
    exact ⟨rfl, Ext.trans bw1 bw2⟩
theorem implIsConnected_any (m : Option Addr) (n cap : Nat) (P Q R S : Nat → Int) (w : World) (hn : n ≤ 1048576) (hcap : n ≤ cap) (hD : EnvW w) (hR : RectsIs w.heap.size w m n P Q R S) :
    Calls Tryd.prog 31 #[.slice m n cap] w fun e w' => e = .returned (.bool (ccV P Q R S n == 1)) ∧ Below w.heap.size w w' := by
  have hp := implComponentCount_any m n cap P Q R S w hn hcap hD hR
  obtain ⟨v, hv⟩ : ∃ v, ccV P Q R S n = v := ⟨_, rfl⟩
  rw [hv] at hp ⊢
  clear hv hD hR
  go_enter Tryd.func31, Tryd.ntmps31
  go_wp2_with (go_at_call 25; refine hp.mono ?_; rintro e w1 ⟨rfl, bw1⟩)
  go_ret
  exact ⟨rfl, bw1⟩
end Go.Proofs.YtepfnnhmplaocaaDoor
