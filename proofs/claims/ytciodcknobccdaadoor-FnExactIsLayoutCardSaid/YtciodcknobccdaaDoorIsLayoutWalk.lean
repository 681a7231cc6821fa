/- FnExactIsLayout answers true. Conditions: the lists' cells are in memory; the variables that regions read hold their tables. -/
import Derived.Test.YtciodcknobccdaaDoorIlA
import Derived.Test.YtciodcknobccdaaDoorDebTab
namespace Go.Proofs.YtciodcknobccdaaDoor
open Go.RowKit
set_option linter.unusedVariables false
set_option linter.unusedSimpArgs false

set_option maxHeartbeats 4000000 in
set_option maxRecDepth 100000 in
theorem walkIsLayout (m : Option Addr) (k kc : Nat) (w : World) (hk : k ≤ maxLen) (hLe : ∃ (a : Nat → Option Addr) (n c : Nat → Nat) (P Q R S : Nat → Nat → Int), ListsAt w.heap.size w m k a n c P Q R S) (hDb : EnvW w) :
    Calls Tryd.prog 10 #[.slice m k kc] w fun e w' => e = .returned (.bool true) ∧ Below w.heap.size w w' := by
  obtain ⟨a, n, c, P, Q, R, S, hL⟩ := hLe
  have HL := Lib.hid hL
  have HD := Lib.hid hDb
  clear hL hDb
  obtain ⟨b, hb⟩ : ∃ b, b = laB n P Q R S k := ⟨_, rfl⟩
  have HB := Lib.hid hb
  clear hb
  go_enter Tryd.func10, Tryd.ntmps10
  go_wp2_with fail
  refine (szRectSS_any m k kc a n c P Q R S _ hk HL.out).mono ?_
  rintro e w1 ⟨⟨v, rfl, hv⟩, rfl⟩
  by_cases hv0 : v < 0
  · clear hv
    go_wp2_with fail
    go_ret
    exact ⟨rfl, Below.refl _ _⟩
  have hs := hv (by omega)
  have hn : ∀ i, i < k → n i ≤ 1048576 := fun i hi => by have := sumN_le n k i hi; omega
  have HNI := Lib.hid hn
  have hk1 : k ≤ 1048576 := by omega
  clear hv hn
  go_wp2_with fail
  refine (toRectSS_any m k kc a n c P Q R S _ hk1 HNI.out HL.out).mono ?_
  rintro e w1 ⟨⟨h1, g1, rfl, X1⟩, bw1⟩
  have X1 := Lib.hid (X1.lists HNI.out)
  go_wp2_with fail
  refine (specIsLayout_any (some ⟨h1, 0, none⟩) k k _ n n P Q R S _ hk1 X1.out).mono ?_
  rintro e w2 ⟨rfl, bw2⟩
  rw [← HB.out]
  have B2 := Ext.trans bw1 bw2
  clear X1 bw1 bw2
  go_wp2_with fail
  refine (toRectSS_any m k kc a n c P Q R S _ hk1 HNI.out (HL.out.below B2 |>.mono B2.size)).mono ?_
  rintro e w3 ⟨⟨h3, g3, rfl, X3⟩, bw3⟩
  have X := Lib.hid X3
  have XL := Lib.hid (X3.lists HNI.out)
  have B3 := Ext.trans B2 bw3
  clear X3 bw3
  go_wp2_with fail
  refine (implIsLayout_any (some ⟨h3, 0, none⟩) k k _ n n P Q R S _ hk1 (HD.out.ext B3) XL.out).mono ?_
  rintro e w4 ⟨rfl, bw4⟩
  rw [← HB.out]
  have X := Lib.hid (X.out.below bw4)
  have B4 := Ext.trans B3 bw4
  clear bw4
  go_wp2_with fail
  refine (toRectSS_any m k kc a n c P Q R S _ hk1 HNI.out (HL.out.below B4 |>.mono B4.size)).mono ?_
  rintro e w6 ⟨⟨h6, g6, rfl, X6⟩, bw6⟩
  have X6 := Lib.hid (X6.lists HNI.out)
  have X := Lib.hid (X.out.below bw6)
  have B6 := Ext.trans B4 bw6
  clear bw6
  go_wp2_with fail
  refine (eqRectSS_any (some ⟨h3, 0, none⟩) (some ⟨h6, 0, none⟩) k k k _ _ n n n P Q R S _ hk1 (X.out.lists HNI.out) X6.out).mono ?_
  rintro e w7 ⟨rfl, bw7⟩
  have B7 := Ext.trans B6 bw7
  clear bw7 X6
  go_wp2_with fail
  go_ret
  exact ⟨rfl, B7⟩
end Go.Proofs.YtciodcknobccdaaDoor
