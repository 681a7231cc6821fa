/- Two drawn regions; a distance and the sizes by which one sees the other. Condition: the code's bytes are in memory. -/
import Derived.Test.YtgccnongfdbalaaDoorRDA
import Derived.Test.YtgccnongfdbalaaDoorQT
namespace Go.Proofs.YtgccnongfdbalaaDoor
open Go.RowKit
set_option linter.unusedVariables false
set_option linter.unusedSimpArgs false

set_option maxHeartbeats 4000000 in
theorem drawRegionDistance_any (a : Option Addr) (len cap : Nat) (w : World) (hlen : len ≤ 8192) (hC : CodeIs w.heap.size w a len) :
    Calls Tryd.prog 46 #[.slice a len cap] w (DrawnTwo w) := by
  go_enter Tryd.func46, Tryd.ntmps46
  go_wp2_with fail
  refine (l01From_any w.heap.size a len cap _ hlen (Nat.le_refl _) hC).mono ?_
  rintro e w1 ⟨g, hg0, hg1, rfl, bw1, hS1⟩
  have A1 := Lib.hid (show SrcAt w.heap.size g w1 w1 a len cap from ⟨Only.refl _ _, hS1, hC.below bw1, bw1.size⟩)
  have B1 := Lib.hid bw1
  have l1 := bw1.size
  clear hS1 bw1 hC
  go_wp2_with fail
  refine (drawRegion_any w.heap.size g a len cap w1 w1 hlen l1 hg0 A1.out).mono ?_
  rintro e w2 ⟨h2, c2, f2, rfl, hI2, hA2⟩
  have I2 := Lib.hid hI2
  have A2 := Lib.hid hA2.rebase
  have O2 := Lib.hid hA2.1
  have l2 := hA2.1.size
  have n2 := canonL_len f2
  clear hI2 hA2 A1
  go_wp2_with fail
  refine (spoil_any w1.heap.size w.heap.size g h2 c2 (canonL f2) 14 a len cap w2 w2 hlen hg0 (by omega) A2.out hg1 l2 n2 I2.out (by omega) (by omega)).mono ?_
  rintro e w3 ⟨h3, c3, l3, rfl, n3, hI3, hA3⟩
  have I3 := Lib.hid hI3
  have A3 := Lib.hid hA3.rebase
  have O3 := Lib.hid (O2.out.trans hA3.1)
  have ls3 := hA3.1.size
  clear hI3 hA3 A2 I2 O2 n2
  go_wp2_with fail
  refine (drawRegion_any w.heap.size g a len cap w3 w3 hlen (by omega) hg0 A3.out).mono ?_
  rintro e w4 ⟨h4, c4, f4, rfl, hI4, hA4⟩
  have I4 := Lib.hid (hI4.lower (show w1.heap.size ≤ w3.heap.size by omega))
  have A4 := Lib.hid hA4.rebase
  have I34 := Lib.hid (I3.out.only hA4.1 hg1)
  have O4 := Lib.hid (O3.out.trans hA4.1)
  have l4 := hA4.1.size
  have n4 := canonL_len f4
  clear hI4 hA4 A3 I3 O3
  go_wp2_with fail
  refine (spoil_any w1.heap.size w.heap.size g h4 c4 (canonL f4) 14 a len cap w4 w4 hlen hg0 (by omega) A4.out hg1 (by omega) n4 I4.out (by omega) (by omega)).mono ?_
  rintro e w5 ⟨h5, c5, l5, rfl, n5, hI5, hA5⟩
  have I5 := Lib.hid (hI5.lower l1)
  have I35 := Lib.hid ((I34.out.only hA5.1 hg1).lower l1)
  have O5 := Lib.hid (O4.out.trans hA5.1)
  clear hI5 hA5 A4 I4 I34 O4 n4
  go_wp2_with fail
  refine bodyPost_ret (v := .tuple #[.slice (some ⟨h3, 0, none⟩) l3.length c3, .slice (some ⟨h5, 0, none⟩) l5.length c5]) (by simp [results, Tryd.results46, go_sem]) rfl ⟨_, _, l3, l5, rfl, ⟨h3, c3, rfl, n3, I35.out⟩, ⟨h5, c5, rfl, n5, I5.out⟩, Only.below B1.out O5.out l1 hg0⟩


/-- The distance is at most k just if the one, grown by k, overlaps the other. -/
theorem rd_size {l1 l2 : List R4} (h1 : okR (pA l1) (pB l1) (pC l1) (pD l1) l1.length = true) (h2 : okR (pA l2) (pB l2) (pC l2) (pD l2) l2.length = true) (n1 : 0 < l1.length) (n2 : 0 < l2.length) (k : Nat) (hk : k ≤ 10) :
    ovL (pA (szL grF (pA l1) (pB l1) (pC l1) (pD l1) l1.length (k : Int))) (pB (szL grF (pA l1) (pB l1) (pC l1) (pD l1) l1.length (k : Int))) (pC (szL grF (pA l1) (pB l1) (pC l1) (pD l1) l1.length (k : Int))) (pD (szL grF (pA l1) (pB l1) (pC l1) (pD l1) l1.length (k : Int))) (szL grF (pA l1) (pB l1) (pC l1) (pD l1) l1.length (k : Int)).length (pA l2) (pB l2) (pC l2) (pD l2) l2.length
      = decide (rdV (pA l1) (pB l1) (pC l1) (pD l1) l1.length (pA l2) (pB l2) (pC l2) (pD l2) l2.length ≤ (k : Int)) := by
  have hi : inB (k : Int) 0 10 = true := inB_mk (by omega) (by omega)
  have hs : szL grF (pA l1) (pB l1) (pC l1) (pD l1) l1.length (k : Int) = canonL (seeF (covF (pA l1) (pB l1) (pC l1) (pD l1) l1.length) k k) := by
    rw [szV_yes (by rw [h1, hi]; rfl), Int.toNat_natCast]; rfl
  have hov := ov_nr (A := pA l2) (B := pB l2) (C := pC l2) (D := pD l2) (k := l2.length) hs h2
  rw [hov]
  have hr := rdV_is (pA l1) (pB l1) (pC l1) (pD l1) l1.length (pA l2) (pB l2) (pC l2) (pD l2) l2.length
  unfold rdIs at hr
  rw [if_pos (by unfold rdOK; rw [h1, h2, decide_eq_true n1, decide_eq_true n2]; rfl)] at hr
  obtain ⟨r, e, hf⟩ := hr
  rw [e]
  by_cases hrk : r ≤ k
  · rw [decide_eq_true (by omega)]
    rcases hf.at_ with h | h
    · omega
    · exact nrB_mono hrk h
  · rw [decide_eq_false (by omega)]
    exact hf.before k (by omega)
end Go.Proofs.YtgccnongfdbalaaDoor
