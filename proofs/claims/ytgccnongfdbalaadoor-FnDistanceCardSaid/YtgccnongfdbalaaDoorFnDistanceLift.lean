/- FnDistance answers true. Conditions: the code's bytes are in memory; the variables that regions read hold their tables. -/
import Derived.Test.YtgccnongfdbalaaDoorREA
import Derived.Test.YtgccnongfdbalaaDoorRAA
import Derived.Test.YtgccnongfdbalaaDoorQZ
import Derived.Test.YtgccnongfdbalaaDoorQP
import Derived.Test.YtgccnongfdbalaaDoorQM
import Derived.Test.YtgccnongfdbalaaDoorQI
import Derived.Test.YtgccnongfdbalaaDoorQT
import Derived.ProofKit
import Derived.OpenShut
import Derived.ShutString
import Derived.ChangeOld
import Derived.Carry
import Derived.Below
import Derived.Lib.SmallJoins
import Derived.Lib.LaidU8
import Derived.Test.YtgccnongfdbalaaDoorFacts
import Derived.OpenVars
import Derived.LaidMore
import Derived.Stop.Joined
import Derived.SevenTiedAt
import Derived.Test.YtgccnongfdbalaaDoorTie
import Derived.Test.YtgccnongfdbalaaDoorCards
namespace Go.Proofs.YtgccnongfdbalaaDoor
open Go.RowKit
set_option linter.unusedVariables false
set_option linter.unusedSimpArgs false

set_option maxRecDepth 100000 in
set_option maxHeartbeats 4000000 in
theorem walkDistance (a : Option Addr) (len cap : Nat) (w : World) (hlen : len ≤ maxLen) (hC : CodeIs w.heap.size w a len) (hD : EnvW w) :
    Calls Tryd.prog 8 #[.slice a len cap] w fun e w' => e = .returned (.bool true) ∧ Below w.heap.size w w' := by
  by_cases hbig : 4096 < len
  · have hb : decide (4096 < len) = true := decide_eq_true hbig
    go_enter Tryd.func8, Tryd.ntmps8
    go_wp2_with fail
    refine (lawBigB_any _ _ _ _).mono ?_
    rintro e w1 ⟨rfl, rfl⟩
    rw [hb]
    go_wp2_with fail
    go_ret
    exact ⟨rfl, Below.refl _ _⟩
  have hb : decide (4096 < len) = false := decide_eq_false hbig
  have HC := Lib.hid hC
  clear hC
  go_enter Tryd.func8, Tryd.ntmps8
  go_wp2_with fail
  refine (lawBigB_any _ _ _ _).mono ?_
  rintro e w1 ⟨rfl, rfl⟩
  rw [hb]
  go_wp2_with fail
  refine (drawRegionDistance_any a len cap _ (by omega) HC.out).mono ?_
  rintro e w2 ⟨_, _, l1, l2, rfl, ⟨h1, c1, rfl, n1, i1⟩, ⟨h2, c2, rfl, n2, i2⟩, Bc⟩
  have I1 := Lib.hid i1
  have I2 := Lib.hid i2
  clear i1 i2 HC hb hbig
  go_wp2_with fail
  refine (specIsRegion_any (some ⟨h1, 0, none⟩) l1.length c1 (pA l1) (pB l1) (pC l1) (pD l1) _ (by omega) I1.out.rects).mono ?_
  rintro e wr1 ⟨rfl, br1⟩
  have I1 := Lib.hid (I1.out.ext br1)
  have I2 := Lib.hid (I2.out.ext br1)
  have Bc := Ext.trans Bc br1
  clear br1
  cases hok1 : okR (pA l1) (pB l1) (pC l1) (pD l1) l1.length with
  | false =>
    go_wp2_with fail
    go_ret
    exact ⟨rfl, Bc⟩
  | true =>
  go_wp2_with fail
  refine (specIsRegion_any (some ⟨h2, 0, none⟩) l2.length c2 (pA l2) (pB l2) (pC l2) (pD l2) _ (by omega) I2.out.rects).mono ?_
  rintro e wr2 ⟨rfl, br2⟩
  have I1 := Lib.hid (I1.out.ext br2)
  have I2 := Lib.hid (I2.out.ext br2)
  have Bc := Ext.trans Bc br2
  clear br2
  cases hok2 : okR (pA l2) (pB l2) (pC l2) (pD l2) l2.length with
  | false =>
    go_wp2_with fail
    go_ret
    exact ⟨rfl, Bc⟩
  | true =>
  by_cases hz1 : l1.length = 0
  · have z1 : ((l1.length : Int) == 0) = true := by simp [hz1]
    clear hz1
    go_wp2_with fail
    go_ret
    exact ⟨rfl, Bc⟩
  have z1 : ((l1.length : Int) == 0) = false := by rw [beq_eq_false_iff_ne]; omega
  by_cases hz2 : l2.length = 0
  · have z2 : ((l2.length : Int) == 0) = true := by simp [hz2]
    clear hz2
    go_wp2_with fail
    go_ret
    exact ⟨rfl, Bc⟩
  have z2 : ((l2.length : Int) == 0) = false := by rw [beq_eq_false_iff_ne]; omega
  have HSZ := Lib.hid fun k hk => rd_size hok1 hok2 (by omega) (by omega) k hk
  obtain ⟨v, hv⟩ : ∃ v, v = rdV (pA l1) (pB l1) (pC l1) (pD l1) l1.length (pA l2) (pB l2) (pC l2) (pD l2) l2.length := ⟨_, rfl⟩
  rw [← hv] at HSZ
  have EV := Lib.hid hv.symm
  have hvv : (v == v) = true := by simp
  clear hv hok1 hok2 hz1 hz2
  go_wp2_with fail
  refine (copyRects_any _ h1 c1 l1 _ (by omega) I1.out).mono ?_
  rintro e w21 ⟨h21, c21, rfl, k21, i21, b21⟩
  have i21 := Lib.hid i21
  have I1 := Lib.hid (I1.out.ext b21)
  have I2 := Lib.hid (I2.out.ext b21)
  have Bc := Ext.trans Bc b21
  clear b21
  have I21 := i21
  clear i21
  go_wp2_with fail
  refine (copyRects_any _ h2 c2 l2 _ (by omega) I2.out).mono ?_
  rintro e w22 ⟨h22, c22, rfl, k22, i22, b22⟩
  have i22 := Lib.hid i22
  have I1 := Lib.hid (I1.out.ext b22)
  have I2 := Lib.hid (I2.out.ext b22)
  have I21 := Lib.hid (I21.out.ext b22)
  have Bc := Ext.trans Bc b22
  clear b22
  have I22 := i22
  clear i22
  go_wp2_with fail
  refine (implRdV_any (some ⟨h21, 0, none⟩) l1.length c21 (pA l1) (pB l1) (pC l1) (pD l1) (some ⟨h22, 0, none⟩) l2.length c22 (pA l2) (pB l2) (pC l2) (pD l2) _ (by omega) k21 (by omega) k22 (hD.ext Bc) I21.out.rects I22.out.rects).mono ?_
  rintro e w23 ⟨rfl, b23⟩
  rw [EV.out]
  clear I21
  clear I22
  have I1 := Lib.hid (I1.out.ext b23)
  have I2 := Lib.hid (I2.out.ext b23)
  have Bc := Ext.trans Bc b23
  clear b23
  go_wp2_with fail
  go_loopw [6] (fun s6 wr => ∃ kk : Nat, kk ≤ 11 ∧ s6 = .int .i64 kk ∧ Hid (RecIs w.heap.size wr h1 l1) ∧ Hid (RecIs w.heap.size wr h2 l2) ∧ Hid (Below w.heap.size w wr)) (fun s6 _ => 11 - (intOf s6).toNat)
  case atStart => exact ⟨0, by omega, rfl, I1, I2, Lib.hid Bc⟩
  case round =>
    obtain ⟨kk, hkk, rfl, I1, I2, HBc⟩ := hrel
    have Bc := HBc.out
    by_cases hlt : kk < 11
    · have r1 : (kk : Int) ≤ 10 := by omega
      obtain ⟨lG, hG⟩ : ∃ l, l = szL grF (pA l1) (pB l1) (pC l1) (pD l1) l1.length (kk : Int) := ⟨_, rfl⟩
      have hnG : lG.length ≤ 3280 := by rw [hG]; exact szL_len _ _ _ _ _ _ _
      have hsz := HSZ.out kk (by omega)
      rw [← hG] at hsz
      have EG := Lib.hid hG.symm
      clear hG
      cases hq : decide (v ≤ (kk : Int))
      all_goals
        rw [hq] at hsz
        have hq9 := hq
        have HSZK := Lib.hid hsz
        clear hsz hq9
        go_wp2_with fail
        refine (copyRects_any _ h1 c1 l1 _ (by omega) I1.out).mono ?_
        rintro e w24 ⟨h24, c24, rfl, k24, i24, b24⟩
        have i24 := Lib.hid i24
        have I1 := Lib.hid (I1.out.ext b24)
        have I2 := Lib.hid (I2.out.ext b24)
        have Bc := Ext.trans Bc b24
        clear b24
        have I24 := i24
        clear i24
        go_wp2_with fail
        refine (growC_any (some ⟨h24, 0, none⟩) l1.length c24 (pA l1) (pB l1) (pC l1) (pD l1) (kk : Int) _ (by omega) k24 (hD.ext Bc) I24.out.rects).mono ?_
        rintro e w25 ⟨⟨a25, c25, rfl, k25, o25⟩, b25⟩
        rw [EG.out] at k25 o25 ⊢
        have o25 := Lib.hid o25
        clear I24
        have I1 := Lib.hid (I1.out.ext b25)
        have I2 := Lib.hid (I2.out.ext b25)
        have Bc := Ext.trans Bc b25
        clear b25
        have O25 := o25
        clear o25
        go_wp2_with fail
        refine (copyRects_any _ h2 c2 l2 _ (by omega) I2.out).mono ?_
        rintro e w26 ⟨h26, c26, rfl, k26, i26, b26⟩
        have i26 := Lib.hid i26
        have I1 := Lib.hid (I1.out.ext b26)
        have I2 := Lib.hid (I2.out.ext b26)
        have O25 := Lib.hid (O25.out.below b26)
        have Bc := Ext.trans Bc b26
        clear b26
        have I26 := i26
        clear i26
        go_wp2_with fail
        refine (implOverlaps_any merge8_any a25 lG.length c25 (pA lG) (pB lG) (pC lG) (pD lG) (some ⟨h26, 0, none⟩) l2.length c26 (pA l2) (pB l2) (pC l2) (pD l2) _ (by omega) k25 (by omega) k26 (hD.ext Bc) O25.out.rects I26.out.rects).mono ?_
        rintro e w27 ⟨rfl, b27⟩
        rw [HSZK.out]
        clear O25
        clear I26
        have I1 := Lib.hid (I1.out.ext b27)
        have I2 := Lib.hid (I2.out.ext b27)
        have Bc := Ext.trans Bc b27
        clear b27
        have hle := hq
        simp only [decide_eq_true_eq, decide_eq_false_iff_not] at hle
        go_wp2_with fail
        go_roundw
        case rel => exact ⟨kk + 1, by omega, by go_num, I1, I2, Lib.hid Bc⟩
        case measure => simp [intOf]; omega
    · have r1 : ¬ (kk : Int) ≤ 10 := by omega
      go_wp2_with fail
      refine (specRdV_any (some ⟨h1, 0, none⟩) l1.length c1 (pA l1) (pB l1) (pC l1) (pD l1) (some ⟨h2, 0, none⟩) l2.length c2 (pA l2) (pB l2) (pC l2) (pD l2) _ (by omega) (by omega) I1.out.rects I2.out.rects).mono ?_
      rintro e w9 ⟨rfl, b9⟩
      rw [EV.out]
      have Bc := Ext.trans Bc b9
      go_wp2_with fail
      go_ret
      exact ⟨rfl, Bc⟩
end Go.Proofs.YtgccnongfdbalaaDoor

namespace Go.Proofs.YtgccnongfdbalaaDoor.fnDistance
open Go.Proofs.YtgccnongfdbalaaDoor
open Go.ChangeShapes Go.WideShapes Go.ChangeAt Go.RowKit Go.Joins
open Go.ChangeMaps (open_string shut_string)
set_option linter.unusedVariables false

theorem addN0 (x : Addr) : x.add 0 = x := by simp [Addr.add]
theorem addNk (b o k : Nat) : (⟨b, o, none⟩ : Addr).add k = ⟨b, o + k, none⟩ := by
  unfold Addr.add
  split
  · rename_i h; subst h; rfl
  · rfl
theorem own : ownKnob Tryd.prog.godebug = none := by kernel_rfl
theorem laidOut : laidOutB Tryd.prog = true := by kernel_rfl

abbrev laid := Rows.fnDistanceRow.laid
set_option maxRecDepth 100000 in
theorem lifted (os : Os) (started : os.Started) (H : Type) (enc : TypeId × Value → H) :
    ReturnsInHanded {} Tryd.checked os 8 .any (fun w args => (Rows.fnDistanceSpec.pre enc Tryd.prog Tryd.f8 Rows.fnDistanceRow.domain false w args ∧ laidMetH Tryd.prog Rows.fnDistanceRow.laid w) ∧ sizedMet enc Tryd.prog Tryd.f8 (OpenSpec.ofChange Rows.fnDistanceSpec) false w args)
      (Rows.fnDistanceSpec.post enc Tryd.prog Tryd.f8 false true false false) := by
  refine returnsInHanded_of_change_and (C := Tryd.checked) (X := fun w _ => laidMetH Tryd.prog Rows.fnDistanceRow.laid w) (fun _ _ _ hh h => h.of_heap hh) own started (by kernel_rfl) Tryd.func8
    (ChangeSpec.witness_shaped (enc := enc) (C := Tryd.checked) (os := os) (X := fun w _ => laidMetH Tryd.prog Rows.fnDistanceRow.laid w) false (World.laidAll Tryd.prog os Rows.fnDistanceRow.laid) #[.slice none 0 0] 8 (World.laidAll_os _ _ _)
      (World.shaped_of_ZipB (by kernel_rfl) (by kernel_rfl)) (by kernel_rfl) (by kernel_rfl) (by kernel_rfl)
      (by rw [MakeChecks.laidMetH_plain _ _ _ (by kernel_rfl)]; exact laidMet_laidAll _ (by kernel_rfl) (by kernel_rfl))) ?_
  intro W base args ds gs before hval0 hW hcnd _ hL _
  have hval : ∀ (j : Nat) t v, Tryd.f8.params[j]? = some t → args[j]? = some v → Value.okWide Tryd.prog W .any base t v := hval0
  have hW' := hW
  obtain ⟨p, q, hA0, hV, rfl, hfz, hnd⟩ := hW
  have hA : DataW.TrodAll enc Tryd.prog W 0 (fun _ => true) true Tryd.f8.params.toList args.toList ds p := hA0
  rw [Tryd.params8] at hA hval
  obtain ⟨v0, vs0, d0, ds0, p0, q0, hargs, rfl, rfl, h0, r0⟩ := trodAll_cons hA
  obtain ⟨rfl, rfl, rfl⟩ := trodAll_nil r0
  obtain rfl : args = #[v0] := by cases args; simp_all
  obtain ⟨g0, gt0, gcs0, gf0, gd0, gp0, rfl, hg1, hg2, hg3, hg4, hg5⟩ := trodVars_one hV
  have k0 := h0
  have lt0 : ∀ x ∈ p0, x.block < W.heap.size := by obtain ⟨m, hm⟩ := k0; exact DataW.trod_lt m _ _ _ hm
  obtain ⟨a0, len0, cap0, rfl⟩ := okWide_slice Tryd.underlying22 (hval 0 22 v0 rfl rfl)
  have code0 : len0 ≤ maxLen ∧ CodeIs W.heap.size W a0 len0 := by
    obtain ⟨fuel, hf⟩ := h0
    rcases open_ints Tryd.underlying22 Tryd.underlying5 (by kernel_rfl) hf with ⟨hcs, _⟩ | ⟨x, l, c, zs, hcs, _, hl, hm, hz, _, hcell, hwz⟩
    · simp [Value.cells] at hcs
      obtain ⟨rfl, rfl, rfl⟩ := hcs
      exact ⟨Nat.zero_le _, fun k hk => absurd hk (by omega)⟩
    · simp [Value.cells] at hcs
      obtain ⟨rfl, rfl, rfl⟩ := hcs
      have hz' := hz
      simp at hz'
      refine ⟨by omega, fun k hk => ?_⟩
      have hk' : k < zs.length := by omega
      have hc0 := hcell 0 (by omega)
      have hc := hcell k hk'
      rw [addN0] at hc0
      have hsp : x.spot = none := Go.Proofs.cell_spot hc0
      have hw := hwz (zs.getD k 0) (by rw [List.getD, List.getElem?_eq_getElem hk']; exact List.getElem_mem hk')
      have hb := bounds_u8 hw
      obtain ⟨xb, xo, xs⟩ := x
      obtain rfl : xs = none := hsp
      rw [addNk] at hc
      exact ⟨xb, xo, zs.getD k 0, rfl, World.block_lt_of_cell? W ⟨xb, xo + k, none⟩ hc, hc, hb.1, hb.2⟩
  have hEnv : EnvW W := ⟨deb_of_laid hL (by kernel_rfl) (by simp [Rows.fnDistanceRow]), chip_of_laid hL (by kernel_rfl) (by simp [Rows.fnDistanceRow])⟩
  clear hA0 hval0
  refine (walkDistance a0 len0 cap0 W code0.1 code0.2 hEnv).mono fun e W' ⟨he, bel⟩ => ?_
  subst he
  exact ⟨_, rfl, _, _, _, [], _, _, hW', trodAll_mk1 (shut_bool Tryd.underlying4 _), (trodAll_cons_mk (Below.trod laidOut (by kernel_rfl) (of_decide_eq_true (by kernel_rfl)) k0 bel lt0) trodAll_mk0), (Below.trodVars laidOut bel (by kernel_rfl) hV), bel.frame _, fun h => by cases h⟩

end Go.Proofs.YtgccnongfdbalaaDoor.fnDistance
