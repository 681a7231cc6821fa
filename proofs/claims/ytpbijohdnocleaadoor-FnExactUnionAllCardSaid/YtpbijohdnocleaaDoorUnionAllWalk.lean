/- FnExactUnionAll answers true. Conditions: the lists' cells are in memory; the variables that regions read hold their tables. -/
import Derived.Test.YtpbijohdnocleaaDoorUaA
import Derived.Test.YtpbijohdnocleaaDoorUaB
import Derived.Test.YtpbijohdnocleaaDoorSbM14
import Derived.Test.YtpbijohdnocleaaDoorDebTab
namespace Go.Proofs.YtpbijohdnocleaaDoor
open Go.RowKit
set_option linter.unusedVariables false
set_option linter.unusedSimpArgs false

theorem RowR.keptX {w w' : World} {X : Nat → Prop} {g len : Nat} {P Q R S : Nat → Int} (h : RowR w g len P Q R S) (hk : Kept X w w') (hg : g < w.heap.size) (hX : ¬ X g) : RowR w' g len P Q R S := fun t ht => by
  obtain ⟨⟨c0, c1, c2, c3⟩, f0, f1, f2, f3⟩ := h t ht
  exact ⟨⟨(hk.cell (p := ⟨g, t * 4, none⟩) hg hX).trans c0, (hk.cell (p := ⟨g, t * 4 + 1, none⟩) hg hX).trans c1, (hk.cell (p := ⟨g, t * 4 + 2, none⟩) hg hX).trans c2, (hk.cell (p := ⟨g, t * 4 + 3, none⟩) hg hX).trans c3⟩, (hk.frozen (p := ⟨g, t * 4, none⟩) hg hX).trans f0, (hk.frozen (p := ⟨g, t * 4 + 1, none⟩) hg hX).trans f1, (hk.frozen (p := ⟨g, t * 4 + 2, none⟩) hg hX).trans f2, (hk.frozen (p := ⟨g, t * 4 + 3, none⟩) hg hX).trans f3⟩
theorem OwnsL.keptX {B : Nat} {w w' : World} {X : Nat → Prop} {a : Option Addr} {l : List R4} (h : OwnsL B w a l) (hk : Kept X w w') (hX : ∀ b, B ≤ b → ¬ X b) : OwnsL B w' a l := by
  rcases h with rfl | ⟨h, rfl, h1, h2, hr⟩
  · exact .inl rfl
  · exact .inr ⟨h, rfl, h1, Nat.lt_of_lt_of_le h2 hk.size, hr.keptX hk h2 (hX h h1)⟩

set_option maxHeartbeats 4000000 in
set_option maxRecDepth 100000 in
theorem walkUnionAll (m : Option Addr) (k kc : Nat) (w : World) (hk : k ≤ maxLen) (hLe : ∃ (a : Nat → Option Addr) (n c : Nat → Nat) (P Q R S : Nat → Nat → Int), ListsAt w.heap.size w m k a n c P Q R S) (hDb : EnvW w) :
    Calls Tryd.prog 16 #[.slice m k kc] w fun e w' => e = .returned (.bool true) ∧ Below w.heap.size w w' := by
  obtain ⟨a, n, c, P, Q, R, S, hL⟩ := hLe
  have HL := Lib.hid hL
  have HD := Lib.hid hDb
  clear hL hDb
  have hlen := uaL_len n P Q R S k
  obtain ⟨l, hl⟩ : ∃ l, l = uaL n P Q R S k := ⟨_, rfl⟩
  rw [← hl] at hlen
  have HLL := Lib.hid hl
  clear hl
  obtain ⟨N, hN⟩ : ∃ N, N = l.length := ⟨_, rfl⟩
  have HN := Lib.hid hN
  rw [← hN] at hlen
  clear hN
  have hmm : ((1 + 4 * (N : Int)) != (1 + 4 * (N : Int))) = false := by simp
  have hnn : ¬ (1 + 4 * (N : Int)) < 0 := by omega
  go_enter Tryd.func16, Tryd.ntmps16
  go_wp2_with fail
  refine (szRectSS_any m k kc a n c P Q R S _ hk HL.out).mono ?_
  rintro e w1 ⟨⟨v, rfl, hv⟩, rfl⟩
  by_cases hv0 : v < 0
  · clear hv
    go_wp2_with fail
    go_ret
    exact ⟨rfl, Below.refl _ _⟩
  have hs := hv (by omega)
  have hn : ∀ i, i < k → n i ≤ 1048576 := fun i hi => by have := sumN_le n k i hi; omega
  have HNI := Lib.hid hn
  have hk1 : k ≤ 1048576 := by omega
  clear hv hn
  go_wp2_with fail
  refine (toRectSS_any m k kc a n c P Q R S _ hk1 HNI.out HL.out).mono ?_
  rintro e w1 ⟨⟨h1, g1, rfl, X1⟩, bw1⟩
  have X1 := Lib.hid (X1.lists HNI.out)
  go_wp2_with fail
  refine (specUnionAll_any (some ⟨h1, 0, none⟩) k k _ n n P Q R S _ hk1 X1.out).mono ?_
  rintro e w2 ⟨⟨a9, c9, rfl, RZ⟩, bw2⟩
  rw [← HLL.out, ← HN.out]
  rw [← HLL.out] at RZ
  have RZ := Lib.hid RZ
  have B2 := Ext.trans bw1 bw2
  clear X1 bw1 bw2
  go_wp2_with fail
  refine (toRectSS_any m k kc a n c P Q R S _ hk1 HNI.out (HL.out.below B2 |>.mono B2.size)).mono ?_
  rintro e w3 ⟨⟨h3, g3, rfl, X3⟩, bw3⟩
  have X := Lib.hid X3
  have XL := Lib.hid (X3.lists HNI.out)
  have hgl : Hid (∀ j, j < k → w2.heap.size ≤ g3 j ∧ g3 j < w3.heap.size) := Lib.hid fun j hj => ⟨by have := X3.low; have := (X3.row j hj).1; omega, (X3.row j hj).2.1⟩
  have RZ := Lib.hid (RZ.out.below bw3)
  have B3 := Ext.trans B2 bw3
  have l23 := bw3.size
  clear X3 bw3
  go_wp2_with fail
  refine (implUnionAll_any (fun m n cap P Q R S mm k kc a' n' c' P' Q' R' S' w h1 h2 h3 h4 h5 h6 => merge14_any m n cap P Q R S mm k kc a' n' c' P' Q' R' S' w h1 h2 h3 h4 h5 h6) (some ⟨h3, 0, none⟩) k k _ n n P Q R S _ hk1 (HD.out.ext B3) XL.out).mono ?_
  rintro e w4 ⟨⟨a4, c4, rfl, O4⟩, bw4⟩
  rw [← HLL.out, ← HN.out]
  rw [← HLL.out] at O4
  have O := Lib.hid O4
  have RZ := Lib.hid (RZ.out.below (bw4.mono (by omega)))
  have X := Lib.hid (X.out.below bw4)
  have Bc := Ext.trans B3 bw4
  have l4 := bw4.size
  clear O4 bw4 XL
  go_wp2_with fail
  rw [HN.out]
  refine (eqRectS_any a4 a9 l.length c4 c9 (pA l) (pB l) (pC l) (pD l) _ (by have := HN.out; omega) O.out.rects (RZ.out.mono (by omega))).mono ?_
  rintro e w5 ⟨rfl, bw5⟩
  rw [← HN.out]
  have O := Lib.hid (O.out.below bw5)
  have RZ := Lib.hid (RZ.out.below (bw5.mono (by omega)))
  have X := Lib.hid (X.out.below bw5)
  have Bc := Ext.trans Bc bw5
  have l5 := bw5.size
  clear bw5
  go_wp2_with fail
  refine (toRectSS_any m k kc a n c P Q R S _ hk1 HNI.out (HL.out.below Bc |>.mono Bc.size)).mono ?_
  rintro e w6 ⟨⟨h6, g6, rfl, X6⟩, bw6⟩
  have X6 := Lib.hid (X6.lists HNI.out)
  have O := Lib.hid (O.out.below bw6)
  have RZ := Lib.hid (RZ.out.below (bw6.mono (by omega)))
  have X := Lib.hid (X.out.below bw6)
  have Bc := Ext.trans Bc bw6
  have l6 := bw6.size
  clear bw6
  go_wp2_with fail
  refine (eqRectSS_any (some ⟨h3, 0, none⟩) (some ⟨h6, 0, none⟩) k k k _ _ n n n P Q R S _ hk1 (X.out.lists HNI.out) X6.out).mono ?_
  rintro e w7 ⟨rfl, bw7⟩
  have O := Lib.hid (O.out.below bw7)
  have RZ := Lib.hid (RZ.out.below (bw7.mono (by omega)))
  have X := Lib.hid (X.out.below bw7)
  have Bc := Ext.trans Bc bw7
  have l7 := bw7.size
  clear bw7 X6
  go_wp2_with fail
  refine (markRectSS_any w2.heap.size h3 k k g3 n P Q R S _ hs X.out).mono ?_
  rintro e w8 ⟨⟨v8, rfl, hv8⟩, hk8⟩
  have b8 : Below w2.heap.size w7 w8 := hk8.below (by omega) (fun b hb ⟨j, j1, j2⟩ => by have := (hgl.out j j1).1; omega)
  have O := Lib.hid (O.out.keptX hk8 (fun b hb ⟨j, j1, j2⟩ => by have := (hgl.out j j1).2; omega))
  have RZ := Lib.hid (RZ.out.below b8)
  have Bc := Bc.trans (b8.mono B2.size)
  have l8 := hk8.size
  have q8 : ¬ v8 < 0 := by omega
  clear hk8 b8 X
  go_wp2_with fail
  rw [HN.out]
  refine (eqRectS_any a4 a9 l.length c4 c9 (pA l) (pB l) (pC l) (pD l) _ (by have := HN.out; omega) O.out.rects (RZ.out.mono (by omega))).mono ?_
  rintro e w9 ⟨rfl, bw9⟩
  rw [← HN.out]
  have O := Lib.hid (O.out.below bw9)
  have RZ := Lib.hid (RZ.out.below (bw9.mono (by omega)))
  have Bc := Ext.trans Bc bw9
  have l9 := bw9.size
  clear bw9
  go_wp2_with fail
  rw [HN.out]
  refine (markOwn w3.heap.size a4 l c4 1 _ (by omega) (by have := HN.out; omega) (by omega) (by omega) O.out).mono ?_
  rintro e w10 ⟨rfl, H10, bw10⟩
  rw [← HN.out]
  have H := Lib.hid H10
  clear H10
  have RZ := Lib.hid (RZ.out.below (bw10.mono (by omega)))
  have B10 : Below w.heap.size w w10 := Bc.trans (bw10.mono (by have := B3.size; omega))
  have l10 := bw10.size
  clear O bw10 Bc
  go_wp2_with fail
  rw [HN.out]
  refine (heldOwn w3.heap.size a4 l.length c4 1 _ (by have := HN.out; omega) (by omega) (by omega) H.out).mono ?_
  rintro e w10' ⟨rfl, rfl⟩
  rw [← HN.out]
  go_wp2_with fail
  refine (toRectSS_any m k kc a n c P Q R S _ hk1 HNI.out (HL.out.below B10 |>.mono B10.size)).mono ?_
  rintro e w11 ⟨⟨h11, g11, rfl, X11⟩, bw11⟩
  have X11 := Lib.hid (X11.lists HNI.out)
  have H := Lib.hid (H.out.below bw11)
  have RZ := Lib.hid (RZ.out.below (bw11.mono (by omega)))
  have B11 := Ext.trans B10 bw11
  have l11 := bw11.size
  go_wp2_with fail
  refine (implUnionAll_any (fun m n cap P Q R S mm k kc a' n' c' P' Q' R' S' w h1 h2 h3 h4 h5 h6 => merge14_any m n cap P Q R S mm k kc a' n' c' P' Q' R' S' w h1 h2 h3 h4 h5 h6) (some ⟨h11, 0, none⟩) k k _ n n P Q R S _ hk1 (HD.out.ext B11) X11.out).mono ?_
  rintro e w12 ⟨⟨a12, c12, rfl, O12⟩, bw12⟩
  rw [← HLL.out, ← HN.out]
  rw [← HLL.out] at O12
  have O := Lib.hid O12
  clear O12
  have H := Lib.hid (H.out.below bw12)
  have RZ := Lib.hid (RZ.out.below (bw12.mono (by omega)))
  have B12 := Ext.trans B11 bw12
  have l12 := bw12.size
  clear bw12
  go_wp2_with fail
  rw [HN.out]
  refine (eqRectS_any a12 a9 l.length c12 c9 (pA l) (pB l) (pC l) (pD l) _ (by have := HN.out; omega) O.out.rects (RZ.out.mono (by omega))).mono ?_
  rintro e w13 ⟨rfl, bw13⟩
  rw [← HN.out]
  have H := Lib.hid (H.out.below bw13)
  have B13 := Ext.trans B12 bw13
  clear bw13 RZ O
  go_wp2_with fail
  rw [HN.out]
  refine (heldOwn w3.heap.size a4 l.length c4 1 _ (by have := HN.out; omega) (by omega) (by omega) H.out).mono ?_
  rintro e w14 ⟨rfl, rfl⟩
  rw [← HN.out]
  go_wp2_with fail
  go_ret
  exact ⟨rfl, B13⟩
end Go.Proofs.YtpbijohdnocleaaDoor
