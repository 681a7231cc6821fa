/- The program's FillHoles. Conditions: the rectangles' cells are in memory; the tables are in memory. -/
import Derived.Test.YtepfnnhmplaocaaDoorCpU
import Derived.Test.YtepfnnhmplaocaaDoorCpV
import Derived.Test.YtepfnnhmplaocaaDoorCpL
import Derived.Test.YtepfnnhmplaocaaDoorCpS
import Derived.Test.YtepfnnhmplaocaaDoorQP
import Derived.Test.YtepfnnhmplaocaaDoorQL
namespace Go.Proofs.YtepfnnhmplaocaaDoor
open Go.RowKit
set_option linter.unusedVariables false
set_option linter.unusedSimpArgs false
attribute [local go_sem ↓] Go.wp_at_zero Go.wp_at_succ

theorem canonL_32 (f : Nat → Bool) : (canonL f).length ≤ 3200 := okR_len (okR_canonL f)
theorem cs_tot32 (P Q R S : Nat → Int) (n : Nat) : ((csL P Q R S n).map List.length).sum ≤ 3200 := by
  unfold csL
  split
  · have h1 := parts_len (covF P Q R S n) false
    have h2 := canonL_32 (covF P Q R S n)
    unfold cmpL
    rw [List.map_map]
    exact Nat.le_trans h1 h2
  · simp
theorem hs_tot32 (P Q R S : Nat → Int) (n : Nat) : ((hsL P Q R S n).map List.length).sum ≤ 3200 := by
  unfold hsL
  split
  · have h1 := parts_len (notF (covF P Q R S n)) true
    have h2 := canonL_32 (notF (covF P Q R S n))
    have h3 := sum_filter_le (fun s => (canonL (partF (notF (covF P Q R S n)) true (cxN s) (cyN s))).length) (fun s => innB (partF (notF (covF P Q R S n)) true (cxN s) (cyN s))) (startsTo (notF (covF P Q R S n)) true 6400)
    unfold holL
    rw [List.map_map]
    exact Nat.le_trans h3 (Nat.le_trans h1 h2)
  · simp
/-- The union with the joined holes is the filling. -/
theorem fh_op (P Q R S : Nat → Int) (n : Nat) : opL 14 P Q R S n (pA (canonL (anyF (hsL P Q R S n)))) (pB (canonL (anyF (hsL P Q R S n)))) (pC (canonL (anyF (hsL P Q R S n)))) (pD (canonL (anyF (hsL P Q R S n)))) (canonL (anyF (hsL P Q R S n))).length = fhL P Q R S n := by
  unfold opL fhL
  rw [okR_canonL, Bool.and_true]
  cases hok : okR P Q R S n with
  | false => simp
  | true =>
    rw [if_pos rfl, if_pos rfl]
    have e : hsL P Q R S n = holL (covF P Q R S n) := by unfold hsL; rw [if_pos hok]
    rw [e]
    apply canonL_congr
    intro k hk
    unfold opF
    rw [cov_canonL_all _ hk]
theorem fh_len (P Q R S : Nat → Int) (n : Nat) : (fhL P Q R S n).length ≤ 3280 := by
  unfold fhL; split
  · exact canonL_len _
  · simp
set_option maxHeartbeats 4000000 in
theorem implFillHoles_any (m : Option Addr) (n cap : Nat) (P Q R S : Nat → Int) (w : World) (hn : n ≤ 1048576) (hcap : n ≤ cap) (hD : EnvW w) (hR : RectsIs w.heap.size w m n P Q R S) :
    Calls Tryd.prog 38 #[.slice m n cap] w fun e w' => LOwn w.heap.size (fhL P Q R S n) e w' ∧ Below w.heap.size w w' := by
  have HD := Lib.hid hD
  have HR := Lib.hid hR
  have hh := fun w' hD' hR' => implHoles_any m n cap P Q R S w' hn hcap hD' hR'
  have hlen := hsL_len P Q R S n
  have hcan := hsL_can P Q R S n
  have htot := hs_tot32 P Q R S n
  have hop := fh_op P Q R S n
  obtain ⟨LL, hLL⟩ : ∃ LL, hsL P Q R S n = LL := ⟨_, rfl⟩
  rw [hLL] at hh hlen hcan htot hop
  have hjp := fun B a c V g w' hB' hD' hL' => joinParts_any B a LL c V g w' hB' hlen hcan htot hD' hL'
  obtain ⟨l, hl⟩ : ∃ l, canonL (anyF LL) = l := ⟨_, rfl⟩
  have hll : l.length ≤ 1048576 := by rw [← hl]; exact Nat.le_trans (canonL_len _) (by decide)
  rw [hl] at hjp hop
  have hun := fun m' cap' w' hcap' hD' hR1 hR2 => implUnionC_any merge14_any m n cap P Q R S m' l.length cap' (pA l) (pB l) (pC l) (pD l) w' hn hcap hll hcap' hD' hR1 hR2
  rw [hop] at hun
  obtain ⟨res, hres⟩ : ∃ res, fhL P Q R S n = res := ⟨_, rfl⟩
  rw [hres] at hun ⊢
  clear hres hl hLL hop hD hR
  go_enter Tryd.func38, Tryd.ntmps38
  go_wp2_with (first | (go_at_call 26; refine (hh _ HD.out HR.out).mono ?_; rintro e w1 ⟨⟨a1, c1, V1, g1, rfl, k1, o1⟩, bw1⟩; have O1 := Lib.hid o1; clear o1) | (go_at_call 82; refine (hjp _ _ _ _ _ _ bw1.size (HD.out.ext bw1) O1.out).mono ?_; rintro e w2 ⟨⟨a2, c2, rfl, k2, o2⟩, bw2⟩; have O2 := Lib.hid o2; clear o2) | (go_at_call 36; refine (hun _ _ _ k2 (HD.out.ext (Ext.trans bw1 bw2)) (HR.out.ext (Ext.trans bw1 bw2)) O2.out.rects).mono ?_; rintro e w3 ⟨⟨a3, c3, rfl, k3, o3⟩, bw3⟩; have O3 := Lib.hid o3; clear o3))
  go_ret
  exact ⟨⟨a3, c3, rfl, O3.out.mono (Ext.trans bw1 bw2).size⟩, Ext.trans (Ext.trans bw1 bw2) bw3⟩
end Go.Proofs.YtepfnnhmplaocaaDoor
