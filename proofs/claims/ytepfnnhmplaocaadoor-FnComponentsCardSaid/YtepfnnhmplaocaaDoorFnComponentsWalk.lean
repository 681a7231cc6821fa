/- FnComponents answers true. Conditions: the code's bytes are in memory; the variables that regions read hold their tables. -/
import Derived.Test.YtepfnnhmplaocaaDoorCqC
import Derived.Test.YtepfnnhmplaocaaDoorCqB
import Derived.Test.YtepfnnhmplaocaaDoorCqZ
import Derived.Test.YtepfnnhmplaocaaDoorQP
import Derived.Test.YtepfnnhmplaocaaDoorQL
import Derived.Test.YtepfnnhmplaocaaDoorQM
import Derived.Test.YtepfnnhmplaocaaDoorQI
import Derived.Test.YtepfnnhmplaocaaDoorQT
namespace Go.Proofs.YtepfnnhmplaocaaDoor
open Go.RowKit
set_option linter.unusedVariables false
set_option linter.unusedSimpArgs false
attribute [local go_sem ↓] Go.wp_at_zero Go.wp_at_succ

theorem RowR.recIs {w : World} {g : Nat} {l : List R4} (h : RowR w g l.length (pA l) (pB l) (pC l) (pD l)) (hg : g < w.heap.size) : RecIs 0 w g l := ⟨Nat.zero_le _, hg, fun i r hr => by
  have hi := (List.getElem?_eq_some_iff.1 hr).1
  have e : l.getD i default = r := by rw [List.getD, hr]; rfl
  obtain ⟨⟨c0, c1, c2, c3⟩, _⟩ := h i hi
  unfold pA at c0; unfold pB at c1; unfold pC at c2; unfold pD at c3
  rw [e] at c0 c1 c2 c3
  exact ⟨c0, c1, c2, c3⟩⟩
set_option maxRecDepth 100000 in
set_option maxHeartbeats 16000000 in
theorem walkFnComponents (a : Option Addr) (len cap : Nat) (w : World) (hlen : len ≤ maxLen) (hC : CodeIs w.heap.size w a len) (hD : EnvW w) :
    Calls Tryd.prog 5 #[.slice a len cap] w fun e w' => e = .returned (.bool true) ∧ Below w.heap.size w w' := by
  by_cases hbig : 4096 < len
  · have hb : decide (4096 < len) = true := decide_eq_true hbig
    go_enter Tryd.func5, Tryd.ntmps5
    go_wp2_with fail
    refine (lawBigB_any _ _ _ _).mono ?_
    rintro e w1 ⟨rfl, rfl⟩
    rw [hb]
    go_wp2_with fail
    go_ret
    exact ⟨rfl, Below.refl _ _⟩
  have hb : decide (4096 < len) = false := decide_eq_false hbig
  have HC := Lib.hid hC
  clear hC
  go_enter Tryd.func5, Tryd.ntmps5
  go_wp2_with fail
  refine (lawBigB_any _ _ _ _).mono ?_
  rintro e w1 ⟨rfl, rfl⟩
  rw [hb]
  go_wp2_with fail
  refine (drawComponents_any a len cap _ (by omega) HC.out).mono ?_
  rintro e w2 ⟨_, l1, rfl, ⟨h1, c1, rfl, n1, i1⟩, Bc⟩
  have I1 := Lib.hid i1
  clear i1 HC hb hbig
  go_wp2_with fail
  refine (specIsRegion_any (some ⟨h1, 0, none⟩) l1.length c1 (pA l1) (pB l1) (pC l1) (pD l1) _ (by omega) I1.out.rects).mono ?_
  rintro e wr1 ⟨rfl, br1⟩
  have I1 := Lib.hid (I1.out.ext br1)
  have Bc := Ext.trans Bc br1
  clear br1
  cases hok1 : okR (pA l1) (pB l1) (pC l1) (pD l1) l1.length with
  | false =>
    go_wp2_with fail
    go_ret
    exact ⟨rfl, Bc⟩
  | true =>
  have hcanon : canonL (covF (pA l1) (pB l1) (pC l1) (pD l1) l1.length) = l1 := (okR_list hok1).symm.trans (listR_pA l1)
  have hcs : csL (pA l1) (pB l1) (pC l1) (pD l1) l1.length = cmpL (covF (pA l1) (pB l1) (pC l1) (pD l1) l1.length) false := by unfold csL; rw [if_pos hok1]
  have hone := fun i l hl => comp_one (f := covF (pA l1) (pB l1) (pC l1) (pD l1) l1.length) (i := i) (l := l) hl
  have hov := fun i l hl => comp_ov (f := covF (pA l1) (pB l1) (pC l1) (pD l1) l1.length) (i := i) (l := l) hl
  have hnx := fun i l hl => comp_next (f := covF (pA l1) (pB l1) (pC l1) (pD l1) l1.length) (i := i) (l := l) hl
  have hla := comp_last (covF (pA l1) (pB l1) (pC l1) (pD l1) l1.length)
  rw [hcanon] at hla
  have hca := fun i l hl r hr => comp_at (i := i) (l := l) hok1 hl (r := r) hr
  have hso := fun i l hl r hr => comp_so (i := i) (l := l) hok1 hl (r := r) hr
  have hlen3 : ∀ l, l ∈ cmpL (covF (pA l1) (pB l1) (pC l1) (pD l1) l1.length) false → l.length ≤ 3280 := fun l hl => (cmpL_can _ _).len hl
  have hll := cmpL_len (covF (pA l1) (pB l1) (pC l1) (pD l1) l1.length) false
  have hcomp := fun m cp w' hcp hD' hR' => implComponents_any m l1.length cp (pA l1) (pB l1) (pC l1) (pD l1) w' (by omega) hcp hD' hR'
  rw [hcs] at hcomp
  obtain ⟨LL, hLL⟩ : ∃ LL, cmpL (covF (pA l1) (pB l1) (pC l1) (pD l1) l1.length) false = LL := ⟨_, rfl⟩
  rw [hLL] at hone hov hnx hla hca hso hlen3 hll hcomp
  have HONE := Lib.hid hone
  have HOV := Lib.hid hov
  have HNX := Lib.hid hnx
  have HLA := Lib.hid hla
  have HCA := Lib.hid hca
  have HSO := Lib.hid hso
  have HL3 := Lib.hid hlen3
  clear hone hov hnx hla hca hso hlen3 hLL hcs hcanon hok1
  go_wp2_with fail
  refine (copyRects_any _ h1 c1 l1 _ (by omega) I1.out).mono ?_
  rintro e w3 ⟨h3, c3, rfl, k3, i3, b3⟩
  have I3 := Lib.hid i3
  have I1 := Lib.hid (I1.out.ext b3)
  have Bc := Ext.trans Bc b3
  clear b3 i3
  go_wp2_with fail
  refine (hcomp _ _ _ k3 (hD.ext Bc) I3.out.rects).mono ?_
  rintro e w4 ⟨⟨a4, c4, V, g, rfl, k4, o4⟩, bw4⟩
  have O4 := Lib.hid o4
  have I1 := Lib.hid (I1.out.ext bw4)
  have Bc := Ext.trans Bc bw4
  clear o4 bw4 I3
  go_wp2_with fail
  have e0 : allL LL 0 = [] := by unfold allL; rw [List.take_zero]; exact canon_nil
  have E0 := Lib.hid e0
  have HAL : Hid (∀ i, (allL LL i).length ≤ 3280) := Lib.hid (fun i => canonL_len _)
  have HBc := Lib.hid Bc
  obtain ⟨w0, hw0⟩ : ∃ w0, w4 = w0 := ⟨_, rfl⟩
  rw [hw0] at O4 I1 Bc HBc ⊢
  clear e0 hcomp hw0
  go_loopw [5, 6] (fun s5 s6 wr => ∃ (i : Nat) (aA : Option Addr) (cA : Nat), i ≤ LL.length ∧ s5 = .slice aA (allL LL i).length cA ∧ (allL LL i).length ≤ cA ∧ s6 = .int .i64 (i : Nat) ∧ Hid (Below w0.heap.size w0 wr) ∧ Hid (RectsL wr.heap.size wr aA (allL LL i))) (fun _ s6 _ => LL.length - (intOf s6).toNat)
  case atStart => exact ⟨0, some ⟨w0.heap.size, 0, none⟩, 0, by omega, by rw [E0.out]; rfl, by rw [E0.out]; exact Nat.le_refl _, rfl, Lib.hid (by (repeat (first | (with_reducible exact Below.refl _ _) | (with_reducible refine Ext.drewN ?_ _) | (with_reducible refine Below.drew ?_) | (with_reducible refine Ext.alloc ?_ _) | (with_reducible refine Ext.setCell ?_ (by simp; try omega) _) | (with_reducible refine Ext.trans ?_ (by assumption)) | (with_reducible assumption) | exact Below.refl _ _))), Lib.hid (by rw [E0.out]; exact RectsL.nil _ _ _)⟩
  case round =>
    obtain ⟨i, aA, cA, hil, rfl, hcA, rfl, HB, HA⟩ := hrel
    by_cases hlt : i < LL.length
    case neg =>
      obtain rfl : i = LL.length := by omega
      have q1 : ¬ ((LL.length : Nat) : Int) < (LL.length : Int) := by omega
      have hA := HA.out
      rw [HLA.out] at hcA hA ⊢
      have HA2 := Lib.hid hA
      have I2 := Lib.hid (I1.out.ext HB.out)
      clear hA HA I1
      go_wp2_with fail
      refine (sameRects_any aA l1.length cA (pA l1) (pB l1) (pC l1) (pD l1) (some ⟨h1, 0, none⟩) l1.length c1 (pA l1) (pB l1) (pC l1) (pD l1) _ (by omega) (by omega) HA2.out I2.out.rects).mono ?_
      rintro e w30 ⟨rfl, b30⟩
      rw [decide_eq_true rfl]
      have B30 := Ext.trans HBc.out (Ext.trans HB.out b30)
      clear b30
      go_wp2_with fail
      go_ret
      exact ⟨rfl, B30⟩
    have q1 : ((i : Nat) : Int) < (LL.length : Int) := by omega
    have q0 : (0 : Int) ≤ ((i : Nat) : Int) := by omega
    obtain ⟨l, hl⟩ : ∃ l, LL[i]? = some l := ⟨_, List.getElem?_eq_getElem hlt⟩
    have hll3 := HL3.out l (List.mem_of_getElem? hl)
    have hlp := O4.out.ne l (List.mem_of_getElem? hl)
    have O5 := Lib.hid (O4.out.below HB.out)
    obtain ⟨c', e1, e2, e3, e4, e5⟩ := O5.out.each i l hl
    obtain ⟨g0, cap0, hg0⟩ : ∃ g0 cap0, Value.slice a4 LL.length c4 = .slice (some ⟨g0, 0, none⟩) LL.length cap0 := by
      rcases O4.out.row.2 with ⟨_, h0⟩ | ⟨g0, cap0, _, h1, _⟩
      · omega
      · exact ⟨g0, cap0, h1⟩
    cases hg0
    have r1 := row_cells O5.out.row i _ e1
    have hr0 := RowR.recIs e4 e3.2
    obtain ⟨r, hr⟩ : ∃ r, l[0]? = some r := ⟨_, List.getElem?_eq_getElem hlp⟩
    have hrm := List.mem_of_getElem? hr
    obtain ⟨f0, f1, f2, f3⟩ := hr0.2.2 0 r hr
    have V1 := Lib.hid (HONE.out i l hl)
    have V2 := Lib.hid (HOV.out i l hl)
    have V3 := Lib.hid (HNX.out i l hl)
    have V4 := Lib.hid (HCA.out i l hl r hrm)
    have V5 := Lib.hid (HSO.out i l hl r hrm)
    have R0 := Lib.hid hr0
    have hA3 := HAL.out i
    obtain ⟨A, hA⟩ : ∃ A, allL LL i = A := ⟨_, rfl⟩
    rw [hA] at V2 V3 HA hcA hA3 ⊢
    obtain ⟨A', hA'⟩ : ∃ A', allL LL (i + 1) = A' := ⟨_, rfl⟩
    have hA3' := HAL.out (i + 1)
    rw [hA'] at V3 hA3'
    have HA' := Lib.hid hA'
    have I2 := Lib.hid (I1.out.ext HB.out)
    have HD2 := Lib.hid (hD.ext (Ext.trans HBc.out HB.out))
    rw [Nat.zero_mul] at f0 f1 f2 f3
    clear hA hA' hr0 e1 e3 e4 e5 hl hr hrm
    go_wp2_with fail
    refine (copyRects_any 0 (g i) c' l _ (by omega) R0.out).mono ?_
    rintro e x1 ⟨k1, d1, rfl, m1, j1, b1⟩
    have B1 := b1
    have J1 := Lib.hid j1
    have r1 := keepC b1 r1
    clear j1 b1
    have hz : ((l.length : Int) == 0) = false := by rw [beq_eq_false_iff_ne]; omega
    have hp0 : (0 : Int) < (l.length : Int) := by omega
    go_wp2_with fail
    refine (implIsConnected_any (some ⟨k1, 0, none⟩) l.length d1 (pA l) (pB l) (pC l) (pD l) _ (by omega) m1 (HD2.out.ext B1) J1.out.rects).mono ?_
    rintro e x2 ⟨rfl, b2⟩
    rw [V1.out, show ((1 : Int) == 1) = true from rfl]
    have B2 := Ext.trans B1 b2
    have r1 := keepC b2 r1
    clear b2 J1
    go_wp2_with fail
    refine (copyRects_any 0 (g i) c' l _ (by omega) (R0.out.ext B2)).mono ?_
    rintro e x3 ⟨k3, d3, rfl, m3, j3, b3⟩
    have B3 := Ext.trans B2 b3
    have J3 := Lib.hid j3
    have r1 := keepC b3 r1
    clear j3 b3
    go_wp2_with fail
    refine (implOverlaps_any merge8_any aA A.length cA (pA A) (pB A) (pC A) (pD A) (some ⟨k3, 0, none⟩) l.length d3 (pA l) (pB l) (pC l) (pD l) _ (by omega) hcA (by omega) m3 (HD2.out.ext B3) (HA.out.ext B3) J3.out.rects).mono ?_
    rintro e x4 ⟨rfl, b4⟩
    rw [V2.out]
    have B4 := Ext.trans B3 b4
    have r1 := keepC b4 r1
    have f0 := keepC B4 f0
    have f1 := keepC B4 f1
    have f2 := keepC B4 f2
    have f3 := keepC B4 f3
    clear b4 J3 B3 B2 B1
    go_wp2_with fail
    obtain ⟨W5, hW5⟩ : ∃ W5, W5 = x4.alloc (.cells #[.int .i64 r.a, .int .i64 r.b, .int .i64 r.c, .int .i64 r.d] 39) := ⟨_, rfl⟩
    have b5 : Below x4.heap.size x4 W5 := by rw [hW5]; exact (Below.refl _ _).alloc (Nat.le_refl _) _
    have y0 : W5.cell? ⟨x4.heap.size, 0, none⟩ = some (.int .i64 r.a) := by rw [hW5]; simp [go_sem]
    have y1 : W5.cell? ⟨x4.heap.size, 1, none⟩ = some (.int .i64 r.b) := by rw [hW5]; simp [go_sem]
    have y2 : W5.cell? ⟨x4.heap.size, 2, none⟩ = some (.int .i64 r.c) := by rw [hW5]; simp [go_sem]
    have y3 : W5.cell? ⟨x4.heap.size, 3, none⟩ = some (.int .i64 r.d) := by rw [hW5]; simp [go_sem]
    rw [← hW5]
    have B5 := Ext.trans B4 b5
    have r1 := keepC b5 r1
    obtain ⟨N5, hN5⟩ : ∃ N5, x4.heap.size = N5 := ⟨_, rfl⟩
    rw [hN5] at y0 y1 y2 y3 ⊢
    have s5 : N5 < W5.heap.size := World.block_lt_of_cell? W5 ⟨N5, 0, none⟩ y0
    have HD5 := Lib.hid (HD2.out.ext B5)
    have I5 := Lib.hid (I2.out.ext B5)
    have R5 := Lib.hid (R0.out.ext B5)
    have A5 := Lib.hid (HA.out.ext B5)
    clear hW5 hN5 b5 B4 f0 f1 f2 f3
    have hcat := fun m cp w' hcp hD' hR' => implComponentAt_any m l1.length cp (pA l1) (pB l1) (pC l1) (pD l1) r.a r.b w' (by omega) hcp hD' hR'
    rw [V4.out] at hcat
    have hsov := fun m cp m' cp' w' hcp hcp' hD' hR' hR2 => implSelectOverlapping_any m l1.length cp (pA l1) (pB l1) (pC l1) (pD l1) m' 1 cp' (fun _ => r.a) (fun _ => r.b) (fun _ => r.c) (fun _ => r.d) w' (by omega) hcp (by omega) hcp' hD' hR' hR2
    rw [V5.out] at hsov
    have hsm := fun m cp w' hR1 hR2 => sameRects_any m l.length cp (pA l) (pB l) (pC l) (pD l) (some ⟨g i, 0, none⟩) l.length c' (pA l) (pB l) (pC l) (pD l) w' (by omega) (by omega) hR1 hR2
    rw [decide_eq_true rfl] at hsm
    go_region_held3 (fun w' => Below W5.heap.size W5 w' ∧ W5.heap.size ≤ w'.heap.size ∧ w'.cell? ⟨N5, 0, none⟩ = some (.int .i64 r.a) ∧ w'.cell? ⟨N5, 1, none⟩ = some (.int .i64 r.b) ∧ w'.cell? ⟨N5, 2, none⟩ = some (.int .i64 r.c) ∧ w'.cell? ⟨N5, 3, none⟩ = some (.int .i64 r.d) ∧ w'.cell? ⟨g0, i, none⟩ = some (.slice (some ⟨g i, 0, none⟩) l.length c'))
      (first | ((try dsimp only); go_split_ands; (repeat' (with_reducible refine And.intro ?_ ?_)) <;> first | ((repeat (with_reducible refine keepS ?_ (by simp; try omega) _)); (first | (with_reducible assumption) | (with_reducible exact keepC (by assumption) (by assumption)) | (with_reducible exact keepA (by assumption) _) | (with_reducible exact keepR (by assumption) (by omega) _))) | ((try simp only [World.size_alloc, World.size_setCell, World.size_drew]); omega) | (refine Mats.below hM ?_ hM.size; (repeat (first | (with_reducible exact Below.refl _ _) | (with_reducible refine Ext.drewN ?_ _) | (with_reducible refine Below.drew ?_) | (with_reducible refine Ext.alloc ?_ _) | (with_reducible refine Ext.setCell ?_ (by simp; try omega) _) | (with_reducible refine Ext.trans ?_ (by assumption)) | (with_reducible assumption) | exact Below.refl _ _)); done) | ((repeat (first | (with_reducible exact Below.refl _ _) | (with_reducible refine Ext.drewN ?_ _) | (with_reducible refine Below.drew ?_) | (with_reducible refine Ext.alloc ?_ _) | (with_reducible refine Ext.setCell ?_ (by simp; try omega) _) | (with_reducible refine Ext.trans ?_ (by assumption)) | (with_reducible assumption) | exact Below.refl _ _)); done) | (go_keep; done)))
      ((first
        | (have k9 := hr9; clear k9; go_at_call 33; go_loud (refine (hsm _ _ _ (RectsIs.ext hr9 (by (repeat (first | (with_reducible exact Below.refl _ _) | (with_reducible refine Ext.drewN ?_ _) | (with_reducible refine Below.drew ?_) | (with_reducible refine Ext.alloc ?_ _) | (with_reducible refine Ext.setCell ?_ (by simp; try omega) _) | (with_reducible refine Ext.trans ?_ (by assumption)) | (with_reducible assumption) | exact Below.refl _ _)))) (R5.out.ext (by (repeat (first | (with_reducible exact Below.refl _ _) | (with_reducible refine Ext.drewN ?_ _) | (with_reducible refine Below.drew ?_) | (with_reducible refine Ext.alloc ?_ _) | (with_reducible refine Ext.setCell ?_ (by simp; try omega) _) | (with_reducible refine Ext.trans ?_ (by assumption)) | (with_reducible assumption) | exact Below.refl _ _)))).rects).mono ?_; rintro e v10 ⟨rfl, bv10⟩; obtain ⟨sv10, zv10, cv10, fv10⟩ := bcell bv10; (try simp only [World.size_alloc, World.size_setCell, World.size_drew] at sv10)))
        | (have k8 := j8; clear k8; go_at_call 35; go_loud (refine (hsov _ _ _ _ _ m8 (Nat.le_refl 1) (HD5.out.ext (by (repeat (first | (with_reducible exact Below.refl _ _) | (with_reducible refine Ext.drewN ?_ _) | (with_reducible refine Below.drew ?_) | (with_reducible refine Ext.alloc ?_ _) | (with_reducible refine Ext.setCell ?_ (by simp; try omega) _) | (with_reducible refine Ext.trans ?_ (by assumption)) | (with_reducible assumption) | exact Below.refl _ _)))) (j8.ext (by (repeat (first | (with_reducible exact Below.refl _ _) | (with_reducible refine Ext.drewN ?_ _) | (with_reducible refine Below.drew ?_) | (with_reducible refine Ext.alloc ?_ _) | (with_reducible refine Ext.setCell ?_ (by simp; try omega) _) | (with_reducible refine Ext.trans ?_ (by assumption)) | (with_reducible assumption) | exact Below.refl _ _)))).rects (one4 (by first | (simp [go_sem]; done) | exact keepC bv8 (by simp [go_sem]) | exact keepC (by assumption) (by assumption)) (by first | (simp [go_sem]; done) | exact keepC bv8 (by simp [go_sem]) | exact keepC (by assumption) (by assumption)) (by first | (simp [go_sem]; done) | exact keepC bv8 (by simp [go_sem]) | exact keepC (by assumption) (by assumption)) (by first | (simp [go_sem]; done) | exact keepC bv8 (by simp [go_sem]) | exact keepC (by assumption) (by assumption)))).mono ?_; rintro e v9 ⟨⟨a9, c9, rfl, o9⟩, bv9⟩; have hr9 := o9.rects; clear o9; obtain ⟨sv9, zv9, cv9, fv9⟩ := bcell bv9; (try simp only [World.size_alloc, World.size_setCell, World.size_drew] at sv9)))
        | (have k7 := bv7; clear k7; go_at_call 24; go_loud (refine (copyRects_any _ h1 c1 l1 _ (by omega) (I5.out.ext (by (repeat (first | (with_reducible exact Below.refl _ _) | (with_reducible refine Ext.drewN ?_ _) | (with_reducible refine Below.drew ?_) | (with_reducible refine Ext.alloc ?_ _) | (with_reducible refine Ext.setCell ?_ (by simp; try omega) _) | (with_reducible refine Ext.trans ?_ (by assumption)) | (with_reducible assumption) | exact Below.refl _ _))))).mono ?_; rintro e v8 ⟨k8, d8, rfl, m8, j8, bv8⟩; obtain ⟨sv8, zv8, cv8, fv8⟩ := bcell bv8; (try simp only [World.size_alloc, World.size_setCell, World.size_drew] at sv8)))
        | (have k6 := hr6; clear k6; go_at_call 33; go_loud (refine (hsm _ _ _ (RectsIs.ext hr6 (by (repeat (first | (with_reducible exact Below.refl _ _) | (with_reducible refine Ext.drewN ?_ _) | (with_reducible refine Below.drew ?_) | (with_reducible refine Ext.alloc ?_ _) | (with_reducible refine Ext.setCell ?_ (by simp; try omega) _) | (with_reducible refine Ext.trans ?_ (by assumption)) | (with_reducible assumption) | exact Below.refl _ _)))) (R5.out.ext (by (repeat (first | (with_reducible exact Below.refl _ _) | (with_reducible refine Ext.drewN ?_ _) | (with_reducible refine Below.drew ?_) | (with_reducible refine Ext.alloc ?_ _) | (with_reducible refine Ext.setCell ?_ (by simp; try omega) _) | (with_reducible refine Ext.trans ?_ (by assumption)) | (with_reducible assumption) | exact Below.refl _ _)))).rects).mono ?_; rintro e v7 ⟨rfl, bv7⟩; obtain ⟨sv7, zv7, cv7, fv7⟩ := bcell bv7; (try simp only [World.size_alloc, World.size_setCell, World.size_drew] at sv7)))
        | (have k5 := j5; clear k5; go_at_call 34; go_loud (refine (hcat _ _ _ m5 (HD5.out.ext (by (repeat (first | (with_reducible exact Below.refl _ _) | (with_reducible refine Ext.drewN ?_ _) | (with_reducible refine Below.drew ?_) | (with_reducible refine Ext.alloc ?_ _) | (with_reducible refine Ext.setCell ?_ (by simp; try omega) _) | (with_reducible refine Ext.trans ?_ (by assumption)) | (with_reducible assumption) | exact Below.refl _ _)))) (j5.ext (by (repeat (first | (with_reducible exact Below.refl _ _) | (with_reducible refine Ext.drewN ?_ _) | (with_reducible refine Below.drew ?_) | (with_reducible refine Ext.alloc ?_ _) | (with_reducible refine Ext.setCell ?_ (by simp; try omega) _) | (with_reducible refine Ext.trans ?_ (by assumption)) | (with_reducible assumption) | exact Below.refl _ _)))).rects).mono ?_; rintro e v6 ⟨⟨a6, c6, rfl, o6⟩, bv6⟩; have hr6 := o6.rects; clear o6; obtain ⟨sv6, zv6, cv6, fv6⟩ := bcell bv6; (try simp only [World.size_alloc, World.size_setCell, World.size_drew] at sv6)))
        | (go_at_call 24; go_loud (refine (copyRects_any _ h1 c1 l1 _ (by omega) (I5.out.ext (by (repeat (first | (with_reducible exact Below.refl _ _) | (with_reducible refine Ext.drewN ?_ _) | (with_reducible refine Below.drew ?_) | (with_reducible refine Ext.alloc ?_ _) | (with_reducible refine Ext.setCell ?_ (by simp; try omega) _) | (with_reducible refine Ext.trans ?_ (by assumption)) | (with_reducible assumption) | exact Below.refl _ _))))).mono ?_; rintro e v5 ⟨k5, d5, rfl, m5, j5, bv5⟩; obtain ⟨sv5, zv5, cv5, fv5⟩ := bcell bv5; (try simp only [World.size_alloc, World.size_setCell, World.size_drew] at sv5)))))
    all_goals
      rename_i hHeld
      obtain ⟨hb9, hs9, -, -, -, -, r1⟩ := hHeld
      have B10 := Ext.trans B5 hb9
      clear hb9 hs9 y0 y1 y2 y3 hcat hsov hsm
      go_wp2_with fail
      refine (copyRects_any 0 (g i) c' l _ (by omega) (R0.out.ext B10)).mono ?_
      rintro e z1 ⟨kz, dz, rfl, mz, jz, bz⟩
      have JZ := Lib.hid jz
      have Bz := Ext.trans B10 bz
      clear jz bz B10 r1
      go_wp2_with fail
      refine (implUnionC_any merge14_any aA A.length cA (pA A) (pB A) (pC A) (pD A) (some ⟨kz, 0, none⟩) l.length dz (pA l) (pB l) (pC l) (pD l) _ (by omega) hcA (by omega) mz (HD2.out.ext Bz) (HA.out.ext Bz) JZ.out.rects).mono ?_
      rintro e z2 ⟨⟨az, cz, rfl, kz2, oz⟩, bz2⟩
      rw [V3.out] at kz2 oz ⊢
      have OZ := Lib.hid oz
      have BF := Lib.hid (Ext.trans HB.out (Ext.trans Bz bz2))
      clear oz bz2 Bz JZ
      go_wp2_with fail
      go_roundw
      case rel => exact ⟨i + 1, az, cz, by omega, by rw [HA'.out], by rw [HA'.out]; exact kz2, by go_num, BF, Lib.hid (by rw [HA'.out]; exact OZ.out.rects)⟩
      case measure => simp [intOf]; omega
end Go.Proofs.YtepfnnhmplaocaaDoor
