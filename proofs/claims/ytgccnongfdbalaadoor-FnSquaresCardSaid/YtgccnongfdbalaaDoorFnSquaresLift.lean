/- FnSquares answers true. Conditions: the code's bytes are in memory; the variables that regions read hold their tables. -/
import Derived.Test.YtgccnongfdbalaaDoorRCA
import Derived.Test.YtgccnongfdbalaaDoorRAA
import Derived.Test.YtgccnongfdbalaaDoorQZ
import Derived.Test.YtgccnongfdbalaaDoorQP
import Derived.Test.YtgccnongfdbalaaDoorQN
import Derived.Test.YtgccnongfdbalaaDoorQI
import Derived.Test.YtgccnongfdbalaaDoorQT
import Derived.ProofKit
import Derived.OpenShut
import Derived.ShutString
import Derived.ChangeOld
import Derived.Carry
import Derived.Below
import Derived.Lib.SmallJoins
import Derived.Lib.LaidU8
import Derived.Test.YtgccnongfdbalaaDoorFacts
import Derived.OpenVars
import Derived.LaidMore
import Derived.Stop.Joined
import Derived.SevenTiedAt
import Derived.Test.YtgccnongfdbalaaDoorTie
import Derived.Test.YtgccnongfdbalaaDoorCards
namespace Go.Proofs.YtgccnongfdbalaaDoor
open Go.RowKit
set_option linter.unusedVariables false
set_option linter.unusedSimpArgs false

set_option maxRecDepth 100000 in
set_option maxHeartbeats 4000000 in
theorem walkSquares (a : Option Addr) (len cap : Nat) (w : World) (hlen : len ≤ maxLen) (hC : CodeIs w.heap.size w a len) (hD : EnvW w) :
    Calls Tryd.prog 7 #[.slice a len cap] w fun e w' => e = .returned (.bool true) ∧ Below w.heap.size w w' := by
  by_cases hbig : 4096 < len
  · have hb : decide (4096 < len) = true := decide_eq_true hbig
    go_enter Tryd.func7, Tryd.ntmps7
    go_wp2_with fail
    refine (lawBigB_any _ _ _ _).mono ?_
    rintro e w1 ⟨rfl, rfl⟩
    rw [hb]
    go_wp2_with fail
    go_ret
    exact ⟨rfl, Below.refl _ _⟩
  have hb : decide (4096 < len) = false := decide_eq_false hbig
  have HC := Lib.hid hC
  clear hC
  go_enter Tryd.func7, Tryd.ntmps7
  go_wp2_with fail
  refine (lawBigB_any _ _ _ _).mono ?_
  rintro e w1 ⟨rfl, rfl⟩
  rw [hb]
  go_wp2_with fail
  refine (drawSquareCover_any a len cap _ (by omega) HC.out).mono ?_
  rintro e w2 ⟨_, l1, k, rfl, kl, ku, ⟨h1, c1, rfl, n1, i1⟩, Bc⟩
  have I1 := Lib.hid i1
  clear i1 HC hb hbig
  go_wp2_with fail
  refine (specRegionBox_all (some ⟨h1, 0, none⟩) l1.length c1 (pA l1) (pB l1) (pC l1) (pD l1) _ (by omega) I1.out.rects).mono ?_
  rintro e wr1 ⟨rfl, br1⟩
  have I1 := Lib.hid (I1.out.ext br1)
  have Bc := Ext.trans Bc br1
  clear br1
  obtain ⟨x0, hx0⟩ : ∃ x, x = rb0 (pA l1) (pB l1) (pC l1) (pD l1) l1.length := ⟨_, rfl⟩
  obtain ⟨x1, hx1⟩ : ∃ x, x = rb1 (pA l1) (pB l1) (pC l1) (pD l1) l1.length := ⟨_, rfl⟩
  obtain ⟨x2, hx2⟩ : ∃ x, x = rb2 (pA l1) (pB l1) (pC l1) (pD l1) l1.length := ⟨_, rfl⟩
  obtain ⟨x3, hx3⟩ : ∃ x, x = rb3 (pA l1) (pB l1) (pC l1) (pD l1) l1.length := ⟨_, rfl⟩
  rw [← hx0, ← hx1, ← hx2, ← hx3]
  have X0 := Lib.hid hx0
  have X1 := Lib.hid hx1
  have X2 := Lib.hid hx2
  have X3 := Lib.hid hx3
  clear hx0 hx1 hx2 hx3
  cases hok : rbB (pA l1) (pB l1) (pC l1) (pD l1) l1.length with
  | false =>
    go_wp2_with fail
    go_ret
    exact ⟨rfl, Bc.alloc Bc.size _⟩
  | true =>
  have hw1 : IntKind.i64.wrap (2 * k) = 2 * k := by rw [IntKind.wrap_i64]; omega
  have hw2 : IntKind.i64.wrap (2 * k + 1) = 2 * k + 1 := by rw [IntKind.wrap_i64]; omega
  have hw3 : IntKind.i64.wrap (-40 + k) = -40 + k := by rw [IntKind.wrap_i64]; omega
  have hw4 : IntKind.i64.wrap (40 - k) = 40 - k := by rw [IntKind.wrap_i64]; omega
  by_cases hk0 : k < 0
  · go_wp2_with fail
    go_ret
    exact ⟨rfl, Bc.alloc Bc.size _⟩
  by_cases hk1 : 10 < 2 * k + 1
  · go_wp2_with fail
    go_ret
    exact ⟨rfl, Bc.alloc Bc.size _⟩
  by_cases hb0 : x0 < -40 + k
  · go_wp2_with fail
    go_ret
    exact ⟨rfl, Bc.alloc Bc.size _⟩
  by_cases hb1 : x1 < -40 + k
  · go_wp2_with fail
    go_ret
    exact ⟨rfl, Bc.alloc Bc.size _⟩
  by_cases hb2 : 40 - k < x2
  · go_wp2_with fail
    go_ret
    exact ⟨rfl, Bc.alloc Bc.size _⟩
  by_cases hb3 : 40 - k < x3
  · go_wp2_with fail
    go_ret
    exact ⟨rfl, Bc.alloc Bc.size _⟩
  obtain ⟨k0, hkn⟩ : ∃ k0 : Nat, k = (k0 : Int) := ⟨k.toNat, by omega⟩
  have hk : inB k 0 10 = true := inB_mk (by omega) (by omega)
  have hok1 : okR (pA l1) (pB l1) (pC l1) (pD l1) l1.length = true := by unfold rbB at hok; rw [Bool.and_eq_true] at hok; exact hok.1
  have hc1 : l1 = canonL (covF (pA l1) (pB l1) (pC l1) (pD l1) l1.length) := canon_ofS hok1
  obtain ⟨lo, hlo⟩ : ∃ l, l = szL opnF (pA l1) (pB l1) (pC l1) (pD l1) l1.length k := ⟨_, rfl⟩
  have hco := hlo.trans (szV_yes (F := opnF) (by rw [hok1, hk]; rfl))
  have hno : lo.length ≤ 3280 := by rw [hlo]; exact szL_len _ _ _ _ _ _ _
  have EO := Lib.hid hlo.symm
  have ES : Hid (sqL (pA l1) (pB l1) (pC l1) (pD l1) l1.length (2 * k + 1) = lo) := Lib.hid (by
    rw [hco, hkn]
    refine (sq_of_canon (k := k0) hc1 (by omega) (box_in hok ?_ ?_ ?_ ?_)).trans (by rw [Int.toNat_natCast])
    · have := X0.out; omega
    · have := X1.out; omega
    · have := X2.out; omega
    · have := X3.out; omega)
  clear hlo hco hc1 hok1 hk hkn kl ku hok
  have hal : Below wr1.heap.size wr1 (wr1.alloc (.cells #[.int .i64 x0, .int .i64 x1, .int .i64 x2, .int .i64 x3] 29)) := (Below.refl _ _).alloc (Nat.le_refl _) _
  have I1 := Lib.hid (I1.out.ext hal)
  have Bc := Ext.trans Bc hal
  clear hal
  go_wp2_with fail
  refine (copyRects_any _ h1 c1 l1 _ (by omega) I1.out).mono ?_
  rintro e w21 ⟨h21, c21, rfl, k21, i21, b21⟩
  have i21 := Lib.hid i21
  have I1 := Lib.hid (I1.out.ext b21)
  have Bc := Ext.trans Bc b21
  clear b21
  have I21 := i21
  clear i21
  go_wp2_with fail
  refine (squareCoverC_any (some ⟨h21, 0, none⟩) l1.length c21 (pA l1) (pB l1) (pC l1) (pD l1) (2 * k + 1) _ (by omega) k21 (hD.ext Bc) I21.out.rects).mono ?_
  rintro e w22 ⟨⟨a22, c22, rfl, k22, o22⟩, b22⟩
  rw [ES.out] at k22 o22 ⊢
  have o22 := Lib.hid o22
  clear I21
  have I1 := Lib.hid (I1.out.ext b22)
  have Bc := Ext.trans Bc b22
  clear b22
  have O22 := o22
  clear o22
  go_wp2_with fail
  refine (copyRects_any _ h1 c1 l1 _ (by omega) I1.out).mono ?_
  rintro e w23 ⟨h23, c23, rfl, k23, i23, b23⟩
  have i23 := Lib.hid i23
  have I1 := Lib.hid (I1.out.ext b23)
  have O22 := Lib.hid (O22.out.below b23)
  have Bc := Ext.trans Bc b23
  clear b23
  have I23 := i23
  clear i23
  go_wp2_with fail
  refine (openingC_any (some ⟨h23, 0, none⟩) l1.length c23 (pA l1) (pB l1) (pC l1) (pD l1) k _ (by omega) k23 (hD.ext Bc) I23.out.rects).mono ?_
  rintro e w24 ⟨⟨a24, c24, rfl, k24, o24⟩, b24⟩
  rw [EO.out] at k24 o24 ⊢
  have o24 := Lib.hid o24
  clear I23
  have I1 := Lib.hid (I1.out.ext b24)
  have O22 := Lib.hid (O22.out.below b24)
  have Bc := Ext.trans Bc b24
  clear b24
  have O24 := o24
  clear o24
  go_wp2_with fail
  refine (sameRects_any a22 lo.length c22 (pA lo) (pB lo) (pC lo) (pD lo) a24 lo.length c24 (pA lo) (pB lo) (pC lo) (pD lo) _ (by omega) (by omega) O22.out.rects O24.out.rects).mono ?_
  rintro e w25 ⟨rfl, b25⟩
  rw [same_l lo]
  have I1 := Lib.hid (I1.out.ext b25)
  have O22 := Lib.hid (O22.out.below b25)
  have O24 := Lib.hid (O24.out.below b25)
  have Bc := Ext.trans Bc b25
  clear b25
  clear O22
  clear O24
  go_wp2_with fail
  refine (copyRects_any _ h1 c1 l1 _ (by omega) I1.out).mono ?_
  rintro e w26 ⟨h26, c26, rfl, k26, i26, b26⟩
  have i26 := Lib.hid i26
  have I1 := Lib.hid (I1.out.ext b26)
  have Bc := Ext.trans Bc b26
  clear b26
  have I26 := i26
  clear i26
  go_wp2_with fail
  refine (openingC_any (some ⟨h26, 0, none⟩) l1.length c26 (pA l1) (pB l1) (pC l1) (pD l1) k _ (by omega) k26 (hD.ext Bc) I26.out.rects).mono ?_
  rintro e w27 ⟨⟨a27, c27, rfl, k27, o27⟩, b27⟩
  rw [EO.out] at k27 o27 ⊢
  have o27 := Lib.hid o27
  clear I26
  have I1 := Lib.hid (I1.out.ext b27)
  have Bc := Ext.trans Bc b27
  clear b27
  have O27 := o27
  clear o27
  go_wp2_with fail
  refine (specOpening_all (some ⟨h1, 0, none⟩) l1.length c1 (pA l1) (pB l1) (pC l1) (pD l1) k _ (by omega) I1.out.rects).mono ?_
  rintro e w28 ⟨⟨a28, c28, rfl, r28⟩, b28⟩
  rw [EO.out] at r28 ⊢
  have r28 := Lib.hid r28
  have I1 := Lib.hid (I1.out.ext b28)
  have O27 := Lib.hid (O27.out.below b28)
  have Bc := Ext.trans Bc b28
  clear b28
  go_wp2_with fail
  refine (sameRects_any a27 lo.length c27 (pA lo) (pB lo) (pC lo) (pD lo) a28 lo.length c28 (pA lo) (pB lo) (pC lo) (pD lo) _ (by omega) (by omega) O27.out.rects r28.out).mono ?_
  rintro e w29 ⟨rfl, b29⟩
  rw [same_l lo]
  have I1 := Lib.hid (I1.out.ext b29)
  have O27 := Lib.hid (O27.out.below b29)
  have Bc := Ext.trans Bc b29
  clear b29
  go_wp2_with fail
  go_ret
  exact ⟨rfl, Bc⟩
end Go.Proofs.YtgccnongfdbalaaDoor

namespace Go.Proofs.YtgccnongfdbalaaDoor.fnSquares
open Go.Proofs.YtgccnongfdbalaaDoor
open Go.ChangeShapes Go.WideShapes Go.ChangeAt Go.RowKit Go.Joins
open Go.ChangeMaps (open_string shut_string)
set_option linter.unusedVariables false

theorem addN0 (x : Addr) : x.add 0 = x := by simp [Addr.add]
theorem addNk (b o k : Nat) : (⟨b, o, none⟩ : Addr).add k = ⟨b, o + k, none⟩ := by
  unfold Addr.add
  split
  · rename_i h; subst h; rfl
  · rfl
theorem own : ownKnob Tryd.prog.godebug = none := by kernel_rfl
theorem laidOut : laidOutB Tryd.prog = true := by kernel_rfl

abbrev laid := Rows.fnSquaresRow.laid
set_option maxRecDepth 100000 in
theorem lifted (os : Os) (started : os.Started) (H : Type) (enc : TypeId × Value → H) :
    ReturnsInHanded {} Tryd.checked os 7 .any (fun w args => (Rows.fnSquaresSpec.pre enc Tryd.prog Tryd.f7 Rows.fnSquaresRow.domain false w args ∧ laidMetH Tryd.prog Rows.fnSquaresRow.laid w) ∧ sizedMet enc Tryd.prog Tryd.f7 (OpenSpec.ofChange Rows.fnSquaresSpec) false w args)
      (Rows.fnSquaresSpec.post enc Tryd.prog Tryd.f7 false true false false) := by
  refine returnsInHanded_of_change_and (C := Tryd.checked) (X := fun w _ => laidMetH Tryd.prog Rows.fnSquaresRow.laid w) (fun _ _ _ hh h => h.of_heap hh) own started (by kernel_rfl) Tryd.func7
    (ChangeSpec.witness_shaped (enc := enc) (C := Tryd.checked) (os := os) (X := fun w _ => laidMetH Tryd.prog Rows.fnSquaresRow.laid w) false (World.laidAll Tryd.prog os Rows.fnSquaresRow.laid) #[.slice none 0 0] 8 (World.laidAll_os _ _ _)
      (World.shaped_of_ZipB (by kernel_rfl) (by kernel_rfl)) (by kernel_rfl) (by kernel_rfl) (by kernel_rfl)
      (by rw [MakeChecks.laidMetH_plain _ _ _ (by kernel_rfl)]; exact laidMet_laidAll _ (by kernel_rfl) (by kernel_rfl))) ?_
  intro W base args ds gs before hval0 hW hcnd _ hL _
  have hval : ∀ (j : Nat) t v, Tryd.f7.params[j]? = some t → args[j]? = some v → Value.okWide Tryd.prog W .any base t v := hval0
  have hW' := hW
  obtain ⟨p, q, hA0, hV, rfl, hfz, hnd⟩ := hW
  have hA : DataW.TrodAll enc Tryd.prog W 0 (fun _ => true) true Tryd.f7.params.toList args.toList ds p := hA0
  rw [Tryd.params7] at hA hval
  obtain ⟨v0, vs0, d0, ds0, p0, q0, hargs, rfl, rfl, h0, r0⟩ := trodAll_cons hA
  obtain ⟨rfl, rfl, rfl⟩ := trodAll_nil r0
  obtain rfl : args = #[v0] := by cases args; simp_all
  obtain ⟨g0, gt0, gcs0, gf0, gd0, gp0, rfl, hg1, hg2, hg3, hg4, hg5⟩ := trodVars_one hV
  have k0 := h0
  have lt0 : ∀ x ∈ p0, x.block < W.heap.size := by obtain ⟨m, hm⟩ := k0; exact DataW.trod_lt m _ _ _ hm
  obtain ⟨a0, len0, cap0, rfl⟩ := okWide_slice Tryd.underlying22 (hval 0 22 v0 rfl rfl)
  have code0 : len0 ≤ maxLen ∧ CodeIs W.heap.size W a0 len0 := by
    obtain ⟨fuel, hf⟩ := h0
    rcases open_ints Tryd.underlying22 Tryd.underlying5 (by kernel_rfl) hf with ⟨hcs, _⟩ | ⟨x, l, c, zs, hcs, _, hl, hm, hz, _, hcell, hwz⟩
    · simp [Value.cells] at hcs
      obtain ⟨rfl, rfl, rfl⟩ := hcs
      exact ⟨Nat.zero_le _, fun k hk => absurd hk (by omega)⟩
    · simp [Value.cells] at hcs
      obtain ⟨rfl, rfl, rfl⟩ := hcs
      have hz' := hz
      simp at hz'
      refine ⟨by omega, fun k hk => ?_⟩
      have hk' : k < zs.length := by omega
      have hc0 := hcell 0 (by omega)
      have hc := hcell k hk'
      rw [addN0] at hc0
      have hsp : x.spot = none := Go.Proofs.cell_spot hc0
      have hw := hwz (zs.getD k 0) (by rw [List.getD, List.getElem?_eq_getElem hk']; exact List.getElem_mem hk')
      have hb := bounds_u8 hw
      obtain ⟨xb, xo, xs⟩ := x
      obtain rfl : xs = none := hsp
      rw [addNk] at hc
      exact ⟨xb, xo, zs.getD k 0, rfl, World.block_lt_of_cell? W ⟨xb, xo + k, none⟩ hc, hc, hb.1, hb.2⟩
  have hEnv : EnvW W := ⟨deb_of_laid hL (by kernel_rfl) (by simp [Rows.fnSquaresRow]), chip_of_laid hL (by kernel_rfl) (by simp [Rows.fnSquaresRow])⟩
  clear hA0 hval0
  refine (walkSquares a0 len0 cap0 W code0.1 code0.2 hEnv).mono fun e W' ⟨he, bel⟩ => ?_
  subst he
  exact ⟨_, rfl, _, _, _, [], _, _, hW', trodAll_mk1 (shut_bool Tryd.underlying4 _), (trodAll_cons_mk (Below.trod laidOut (by kernel_rfl) (of_decide_eq_true (by kernel_rfl)) k0 bel lt0) trodAll_mk0), (Below.trodVars laidOut bel (by kernel_rfl) hV), bel.frame _, fun h => by cases h⟩

end Go.Proofs.YtgccnongfdbalaaDoor.fnSquares
