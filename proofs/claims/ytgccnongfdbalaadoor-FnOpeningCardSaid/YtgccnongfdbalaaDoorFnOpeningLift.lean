/- FnOpening answers true. Conditions: the code's bytes are in memory; the variables that regions read hold their tables. -/
import Derived.Test.YtgccnongfdbalaaDoorRAA
import Derived.Test.YtgccnongfdbalaaDoorQZ
import Derived.Test.YtgccnongfdbalaaDoorQP
import Derived.Test.YtgccnongfdbalaaDoorQN
import Derived.Test.YtgccnongfdbalaaDoorQI
import Derived.Test.YtgccnongfdbalaaDoorQT
import Derived.ProofKit
import Derived.OpenShut
import Derived.ShutString
import Derived.ChangeOld
import Derived.Carry
import Derived.Below
import Derived.Lib.SmallJoins
import Derived.Lib.LaidU8
import Derived.Test.YtgccnongfdbalaaDoorFacts
import Derived.OpenVars
import Derived.LaidMore
import Derived.Stop.Joined
import Derived.SevenTiedAt
import Derived.Test.YtgccnongfdbalaaDoorTie
import Derived.Test.YtgccnongfdbalaaDoorCards
namespace Go.Proofs.YtgccnongfdbalaaDoor
open Go.RowKit
set_option linter.unusedVariables false
set_option linter.unusedSimpArgs false

set_option maxRecDepth 100000 in
set_option maxHeartbeats 4000000 in
theorem walkOpeningFn (a : Option Addr) (len cap : Nat) (w : World) (hlen : len ≤ maxLen) (hC : CodeIs w.heap.size w a len) (hD : EnvW w) :
    Calls Tryd.prog 6 #[.slice a len cap] w fun e w' => e = .returned (.bool true) ∧ Below w.heap.size w w' := by
  by_cases hbig : 4096 < len
  · have hb : decide (4096 < len) = true := decide_eq_true hbig
    go_enter Tryd.func6, Tryd.ntmps6
    go_wp2_with fail
    refine (lawBigB_any _ _ _ _).mono ?_
    rintro e w1 ⟨rfl, rfl⟩
    rw [hb]
    go_wp2_with fail
    go_ret
    exact ⟨rfl, Below.refl _ _⟩
  have hb : decide (4096 < len) = false := decide_eq_false hbig
  have HC := Lib.hid hC
  clear hC
  go_enter Tryd.func6, Tryd.ntmps6
  go_wp2_with fail
  refine (lawBigB_any _ _ _ _).mono ?_
  rintro e w1 ⟨rfl, rfl⟩
  rw [hb]
  go_wp2_with fail
  refine (drawOpening_any a len cap _ (by omega) HC.out).mono ?_
  rintro e w2 ⟨_, l1, k, rfl, kl, ku, ⟨h1, c1, rfl, n1, i1⟩, Bc⟩
  have I1 := Lib.hid i1
  clear i1 HC hb hbig
  go_wp2_with fail
  refine (specIsRegion_any (some ⟨h1, 0, none⟩) l1.length c1 (pA l1) (pB l1) (pC l1) (pD l1) _ (by omega) I1.out.rects).mono ?_
  rintro e wr1 ⟨rfl, br1⟩
  have I1 := Lib.hid (I1.out.ext br1)
  have Bc := Ext.trans Bc br1
  clear br1
  cases hok1 : okR (pA l1) (pB l1) (pC l1) (pD l1) l1.length with
  | false =>
    go_wp2_with fail
    go_ret
    exact ⟨rfl, Bc⟩
  | true =>
  by_cases hk0 : k < 0
  · go_wp2_with fail
    go_ret
    exact ⟨rfl, Bc⟩
  by_cases hk1 : 10 < k
  · go_wp2_with fail
    go_ret
    exact ⟨rfl, Bc⟩
  have hk : inB k 0 10 = true := inB_mk (by omega) (by omega)
  have hc1 : l1 = canonL (covF (pA l1) (pB l1) (pC l1) (pD l1) l1.length) := canon_ofS hok1
  obtain ⟨lo, hlo⟩ : ∃ l, l = szL opnF (pA l1) (pB l1) (pC l1) (pD l1) l1.length k := ⟨_, rfl⟩
  have hco := hlo.trans (szV_yes (F := opnF) (by rw [hok1, hk]; rfl))
  obtain ⟨lc, hlc⟩ : ∃ l, l = szL clsF (pA l1) (pB l1) (pC l1) (pD l1) l1.length k := ⟨_, rfl⟩
  have hcc := hlc.trans (szV_yes (F := clsF) (by rw [hok1, hk]; rfl))
  have hno : lo.length ≤ 3280 := by rw [hlo]; exact szL_len _ _ _ _ _ _ _
  have hnc : lc.length ≤ 3280 := by rw [hlc]; exact szL_len _ _ _ _ _ _ _
  have EO := Lib.hid hlo.symm
  have EC := Lib.hid hlc.symm
  have EOO := Lib.hid (show szL opnF (pA lo) (pB lo) (pC lo) (pD lo) lo.length k = lo from (sz_of_canon (F := opnF) (fun f g k h j hj => opn_congr h k j hj) hco hk).trans ((canonL_congr (opn_idem _ _)).trans hco.symm))
  have ECC := Lib.hid (show szL clsF (pA lc) (pB lc) (pC lc) (pD lc) lc.length k = lc from (sz_of_canon (F := clsF) (fun f g k h j hj => cls_congr h k j hj) hcc hk).trans ((canonL_congr (cls_idem _ _)).trans hcc.symm))
  have V1 := Lib.hid (cv_yes (l := l1) (m := lo) hok1 (okR_of_canon hco) (fun j hj e => opn_le _ _ j hj ((cov_of_canon hco j hj).symm.trans e)))
  have V2 := Lib.hid (cv_yes (l := lc) (m := l1) (okR_of_canon hcc) hok1 (fun j hj e => (cov_of_canon hcc j hj).trans (cls_ge _ _ j hj e)))
  clear hlo hlc hco hcc hc1 hok1 hk kl ku
  go_wp2_with fail
  refine (copyRects_any _ h1 c1 l1 _ (by omega) I1.out).mono ?_
  rintro e w21 ⟨h21, c21, rfl, k21, i21, b21⟩
  have i21 := Lib.hid i21
  have I1 := Lib.hid (I1.out.ext b21)
  have Bc := Ext.trans Bc b21
  clear b21
  have I21 := i21
  clear i21
  go_wp2_with fail
  refine (openingC_any (some ⟨h21, 0, none⟩) l1.length c21 (pA l1) (pB l1) (pC l1) (pD l1) k _ (by omega) k21 (hD.ext Bc) I21.out.rects).mono ?_
  rintro e w22 ⟨⟨a22, c22, rfl, k22, o22⟩, b22⟩
  rw [EO.out] at k22 o22 ⊢
  have o22 := Lib.hid o22
  clear I21
  have I1 := Lib.hid (I1.out.ext b22)
  have Bc := Ext.trans Bc b22
  clear b22
  have O22 := o22
  clear o22
  go_wp2_with fail
  refine (copyRects_any _ h1 c1 l1 _ (by omega) I1.out).mono ?_
  rintro e w23 ⟨h23, c23, rfl, k23, i23, b23⟩
  have i23 := Lib.hid i23
  have I1 := Lib.hid (I1.out.ext b23)
  have O22 := Lib.hid (O22.out.below b23)
  have Bc := Ext.trans Bc b23
  clear b23
  have I23 := i23
  clear i23
  go_wp2_with fail
  refine (closingC_any (some ⟨h23, 0, none⟩) l1.length c23 (pA l1) (pB l1) (pC l1) (pD l1) k _ (by omega) k23 (hD.ext Bc) I23.out.rects).mono ?_
  rintro e w24 ⟨⟨a24, c24, rfl, k24, o24⟩, b24⟩
  rw [EC.out] at k24 o24 ⊢
  have o24 := Lib.hid o24
  clear I23
  have I1 := Lib.hid (I1.out.ext b24)
  have O22 := Lib.hid (O22.out.below b24)
  have Bc := Ext.trans Bc b24
  clear b24
  have O24 := o24
  clear o24
  go_wp2_with fail
  refine (copyRects_any _ h1 c1 l1 _ (by omega) I1.out).mono ?_
  rintro e w25 ⟨h25, c25, rfl, k25, i25, b25⟩
  have i25 := Lib.hid i25
  have I1 := Lib.hid (I1.out.ext b25)
  have O22 := Lib.hid (O22.out.below b25)
  have O24 := Lib.hid (O24.out.below b25)
  have Bc := Ext.trans Bc b25
  clear b25
  have I25 := i25
  clear i25
  go_wp2_with fail
  refine (implCovers_any merge4_any (some ⟨h25, 0, none⟩) l1.length c25 (pA l1) (pB l1) (pC l1) (pD l1) a22 lo.length c22 (pA lo) (pB lo) (pC lo) (pD lo) _ (by omega) k25 (by omega) k22 (hD.ext Bc) I25.out.rects O22.out.rects).mono ?_
  rintro e w26 ⟨rfl, b26⟩
  rw [V1.out]
  clear I25
  have I1 := Lib.hid (I1.out.ext b26)
  have O22 := Lib.hid (O22.out.below b26)
  have O24 := Lib.hid (O24.out.below b26)
  have Bc := Ext.trans Bc b26
  clear b26
  go_wp2_with fail
  refine (copyRects_any _ h1 c1 l1 _ (by omega) I1.out).mono ?_
  rintro e w27 ⟨h27, c27, rfl, k27, i27, b27⟩
  have i27 := Lib.hid i27
  have I1 := Lib.hid (I1.out.ext b27)
  have O22 := Lib.hid (O22.out.below b27)
  have O24 := Lib.hid (O24.out.below b27)
  have Bc := Ext.trans Bc b27
  clear b27
  have I27 := i27
  clear i27
  go_wp2_with fail
  refine (implCovers_any merge4_any a24 lc.length c24 (pA lc) (pB lc) (pC lc) (pD lc) (some ⟨h27, 0, none⟩) l1.length c27 (pA l1) (pB l1) (pC l1) (pD l1) _ (by omega) k24 (by omega) k27 (hD.ext Bc) O24.out.rects I27.out.rects).mono ?_
  rintro e w28 ⟨rfl, b28⟩
  rw [V2.out]
  clear I27
  have I1 := Lib.hid (I1.out.ext b28)
  have O22 := Lib.hid (O22.out.below b28)
  have O24 := Lib.hid (O24.out.below b28)
  have Bc := Ext.trans Bc b28
  clear b28
  go_wp2_with fail
  refine (openingC_any a22 lo.length c22 (pA lo) (pB lo) (pC lo) (pD lo) k _ (by omega) k22 (hD.ext Bc) O22.out.rects).mono ?_
  rintro e w29 ⟨⟨a29, c29, rfl, k29, o29⟩, b29⟩
  rw [EOO.out] at k29 o29 ⊢
  have o29 := Lib.hid o29
  have I1 := Lib.hid (I1.out.ext b29)
  have O22 := Lib.hid (O22.out.below b29)
  have O24 := Lib.hid (O24.out.below b29)
  have Bc := Ext.trans Bc b29
  clear b29
  have O29 := o29
  clear o29
  go_wp2_with fail
  refine (sameRects_any a29 lo.length c29 (pA lo) (pB lo) (pC lo) (pD lo) a22 lo.length c22 (pA lo) (pB lo) (pC lo) (pD lo) _ (by omega) (by omega) O29.out.rects O22.out.rects).mono ?_
  rintro e w30 ⟨rfl, b30⟩
  rw [same_l lo]
  have I1 := Lib.hid (I1.out.ext b30)
  have O22 := Lib.hid (O22.out.below b30)
  have O24 := Lib.hid (O24.out.below b30)
  have O29 := Lib.hid (O29.out.below b30)
  have Bc := Ext.trans Bc b30
  clear b30
  clear O29
  go_wp2_with fail
  refine (closingC_any a24 lc.length c24 (pA lc) (pB lc) (pC lc) (pD lc) k _ (by omega) k24 (hD.ext Bc) O24.out.rects).mono ?_
  rintro e w31 ⟨⟨a31, c31, rfl, k31, o31⟩, b31⟩
  rw [ECC.out] at k31 o31 ⊢
  have o31 := Lib.hid o31
  have I1 := Lib.hid (I1.out.ext b31)
  have O22 := Lib.hid (O22.out.below b31)
  have O24 := Lib.hid (O24.out.below b31)
  have Bc := Ext.trans Bc b31
  clear b31
  have O31 := o31
  clear o31
  go_wp2_with fail
  refine (sameRects_any a31 lc.length c31 (pA lc) (pB lc) (pC lc) (pD lc) a24 lc.length c24 (pA lc) (pB lc) (pC lc) (pD lc) _ (by omega) (by omega) O31.out.rects O24.out.rects).mono ?_
  rintro e w32 ⟨rfl, b32⟩
  rw [same_l lc]
  have I1 := Lib.hid (I1.out.ext b32)
  have O22 := Lib.hid (O22.out.below b32)
  have O24 := Lib.hid (O24.out.below b32)
  have O31 := Lib.hid (O31.out.below b32)
  have Bc := Ext.trans Bc b32
  clear b32
  clear O31
  clear O24
  go_wp2_with fail
  refine (specOpening_all (some ⟨h1, 0, none⟩) l1.length c1 (pA l1) (pB l1) (pC l1) (pD l1) k _ (by omega) I1.out.rects).mono ?_
  rintro e w33 ⟨⟨a33, c33, rfl, r33⟩, b33⟩
  rw [EO.out] at r33 ⊢
  have r33 := Lib.hid r33
  have I1 := Lib.hid (I1.out.ext b33)
  have O22 := Lib.hid (O22.out.below b33)
  have Bc := Ext.trans Bc b33
  clear b33
  go_wp2_with fail
  refine (sameRects_any a22 lo.length c22 (pA lo) (pB lo) (pC lo) (pD lo) a33 lo.length c33 (pA lo) (pB lo) (pC lo) (pD lo) _ (by omega) (by omega) O22.out.rects r33.out).mono ?_
  rintro e w34 ⟨rfl, b34⟩
  rw [same_l lo]
  have I1 := Lib.hid (I1.out.ext b34)
  have O22 := Lib.hid (O22.out.below b34)
  have Bc := Ext.trans Bc b34
  clear b34
  go_wp2_with fail
  go_ret
  exact ⟨rfl, Bc⟩
end Go.Proofs.YtgccnongfdbalaaDoor

namespace Go.Proofs.YtgccnongfdbalaaDoor.fnOpening
open Go.Proofs.YtgccnongfdbalaaDoor
open Go.ChangeShapes Go.WideShapes Go.ChangeAt Go.RowKit Go.Joins
open Go.ChangeMaps (open_string shut_string)
set_option linter.unusedVariables false

theorem addN0 (x : Addr) : x.add 0 = x := by simp [Addr.add]
theorem addNk (b o k : Nat) : (⟨b, o, none⟩ : Addr).add k = ⟨b, o + k, none⟩ := by
  unfold Addr.add
  split
  · rename_i h; subst h; rfl
  · rfl
theorem own : ownKnob Tryd.prog.godebug = none := by kernel_rfl
theorem laidOut : laidOutB Tryd.prog = true := by kernel_rfl

abbrev laid := Rows.fnOpeningRow.laid
set_option maxRecDepth 100000 in
theorem lifted (os : Os) (started : os.Started) (H : Type) (enc : TypeId × Value → H) :
    ReturnsInHanded {} Tryd.checked os 6 .any (fun w args => (Rows.fnOpeningSpec.pre enc Tryd.prog Tryd.f6 Rows.fnOpeningRow.domain false w args ∧ laidMetH Tryd.prog Rows.fnOpeningRow.laid w) ∧ sizedMet enc Tryd.prog Tryd.f6 (OpenSpec.ofChange Rows.fnOpeningSpec) false w args)
      (Rows.fnOpeningSpec.post enc Tryd.prog Tryd.f6 false true false false) := by
  refine returnsInHanded_of_change_and (C := Tryd.checked) (X := fun w _ => laidMetH Tryd.prog Rows.fnOpeningRow.laid w) (fun _ _ _ hh h => h.of_heap hh) own started (by kernel_rfl) Tryd.func6
    (ChangeSpec.witness_shaped (enc := enc) (C := Tryd.checked) (os := os) (X := fun w _ => laidMetH Tryd.prog Rows.fnOpeningRow.laid w) false (World.laidAll Tryd.prog os Rows.fnOpeningRow.laid) #[.slice none 0 0] 8 (World.laidAll_os _ _ _)
      (World.shaped_of_ZipB (by kernel_rfl) (by kernel_rfl)) (by kernel_rfl) (by kernel_rfl) (by kernel_rfl)
      (by rw [MakeChecks.laidMetH_plain _ _ _ (by kernel_rfl)]; exact laidMet_laidAll _ (by kernel_rfl) (by kernel_rfl))) ?_
  intro W base args ds gs before hval0 hW hcnd _ hL _
  have hval : ∀ (j : Nat) t v, Tryd.f6.params[j]? = some t → args[j]? = some v → Value.okWide Tryd.prog W .any base t v := hval0
  have hW' := hW
  obtain ⟨p, q, hA0, hV, rfl, hfz, hnd⟩ := hW
  have hA : DataW.TrodAll enc Tryd.prog W 0 (fun _ => true) true Tryd.f6.params.toList args.toList ds p := hA0
  rw [Tryd.params6] at hA hval
  obtain ⟨v0, vs0, d0, ds0, p0, q0, hargs, rfl, rfl, h0, r0⟩ := trodAll_cons hA
  obtain ⟨rfl, rfl, rfl⟩ := trodAll_nil r0
  obtain rfl : args = #[v0] := by cases args; simp_all
  obtain ⟨g0, gt0, gcs0, gf0, gd0, gp0, rfl, hg1, hg2, hg3, hg4, hg5⟩ := trodVars_one hV
  have k0 := h0
  have lt0 : ∀ x ∈ p0, x.block < W.heap.size := by obtain ⟨m, hm⟩ := k0; exact DataW.trod_lt m _ _ _ hm
  obtain ⟨a0, len0, cap0, rfl⟩ := okWide_slice Tryd.underlying22 (hval 0 22 v0 rfl rfl)
  have code0 : len0 ≤ maxLen ∧ CodeIs W.heap.size W a0 len0 := by
    obtain ⟨fuel, hf⟩ := h0
    rcases open_ints Tryd.underlying22 Tryd.underlying5 (by kernel_rfl) hf with ⟨hcs, _⟩ | ⟨x, l, c, zs, hcs, _, hl, hm, hz, _, hcell, hwz⟩
    · simp [Value.cells] at hcs
      obtain ⟨rfl, rfl, rfl⟩ := hcs
      exact ⟨Nat.zero_le _, fun k hk => absurd hk (by omega)⟩
    · simp [Value.cells] at hcs
      obtain ⟨rfl, rfl, rfl⟩ := hcs
      have hz' := hz
      simp at hz'
      refine ⟨by omega, fun k hk => ?_⟩
      have hk' : k < zs.length := by omega
      have hc0 := hcell 0 (by omega)
      have hc := hcell k hk'
      rw [addN0] at hc0
      have hsp : x.spot = none := Go.Proofs.cell_spot hc0
      have hw := hwz (zs.getD k 0) (by rw [List.getD, List.getElem?_eq_getElem hk']; exact List.getElem_mem hk')
      have hb := bounds_u8 hw
      obtain ⟨xb, xo, xs⟩ := x
      obtain rfl : xs = none := hsp
      rw [addNk] at hc
      exact ⟨xb, xo, zs.getD k 0, rfl, World.block_lt_of_cell? W ⟨xb, xo + k, none⟩ hc, hc, hb.1, hb.2⟩
  have hEnv : EnvW W := ⟨deb_of_laid hL (by kernel_rfl) (by simp [Rows.fnOpeningRow]), chip_of_laid hL (by kernel_rfl) (by simp [Rows.fnOpeningRow])⟩
  clear hA0 hval0
  refine (walkOpeningFn a0 len0 cap0 W code0.1 code0.2 hEnv).mono fun e W' ⟨he, bel⟩ => ?_
  subst he
  exact ⟨_, rfl, _, _, _, [], _, _, hW', trodAll_mk1 (shut_bool Tryd.underlying4 _), (trodAll_cons_mk (Below.trod laidOut (by kernel_rfl) (of_decide_eq_true (by kernel_rfl)) k0 bel lt0) trodAll_mk0), (Below.trodVars laidOut bel (by kernel_rfl) hV), bel.frame _, fun h => by cases h⟩

end Go.Proofs.YtgccnongfdbalaaDoor.fnOpening
