/- FnAreas answers true. Conditions: the code's bytes are in memory; the variables that regions read hold their tables. -/
import Derived.Test.YtdcddneanbplpaaDoorDrY
import Derived.Test.YtdcddneanbplpaaDoorRiQ
import Derived.Test.YtdcddneanbplpaaDoorSbH
import Derived.Test.YtdcddneanbplpaaDoorSbM14
import Derived.Test.YtdcddneanbplpaaDoorSbM8
import Derived.Test.YtdcddneanbplpaaDoorDebTab
import Derived.ProofKit
import Derived.OpenShut
import Derived.ShutString
import Derived.ChangeOld
import Derived.Carry
import Derived.Below
import Derived.Lib.SmallJoins
import Derived.Lib.LaidU8
import Derived.Test.YtdcddneanbplpaaDoorFacts
import Derived.OpenVars
import Derived.LaidMore
import Derived.Stop.Joined
import Derived.SevenTiedAt
import Derived.Test.YtdcddneanbplpaaDoorTie
import Derived.Test.YtdcddneanbplpaaDoorCards
namespace Go.Proofs.YtdcddneanbplpaaDoor
open Go.RowKit
set_option linter.unusedVariables false
set_option linter.unusedSimpArgs false

theorem lawBig_any (a : Option Addr) (len cap : Nat) (w : World) : Calls Tryd.prog 41 #[.slice a len cap] w fun e w' => e = .returned (.bool (decide (4096 < len))) ∧ w = w' := by
  by_cases h : 4096 < len
  all_goals
    go_enter Tryd.func41, Tryd.ntmps41
    go_wp2
    go_ret
    exact ⟨ret_bool (by simp [h]; try omega), rfl⟩
theorem areaL_bd (f : Nat → Bool) : 0 ≤ areaL (canonL f) ∧ areaL (canonL f) ≤ 6400 := by
  rw [area_canon]
  exact cntF_bd f 6400
theorem areaR_bd {P Q R S : Nat → Int} {n : Nat} (h : okR P Q R S n = true) : 0 ≤ areaR P Q R S n ∧ areaR P Q R S n ≤ 6400 := by
  unfold areaR
  rw [if_pos h]
  exact cntF_bd _ 6400
theorem opL_area_bd (op : Nat) {P Q R S : Nat → Int} {n : Nat} {A B C D : Nat → Int} {k : Nat} (h1 : okR P Q R S n = true) (h2 : okR A B C D k = true) : 0 ≤ areaL (opL op P Q R S n A B C D k) ∧ areaL (opL op P Q R S n A B C D k) ≤ 6400 := by
  rw [show opL op P Q R S n A B C D k = canonL (opF op P Q R S n A B C D k) by unfold opL; rw [h1, h2]; rfl]
  exact areaL_bd _
set_option maxRecDepth 100000 in
set_option maxHeartbeats 4000000 in
theorem walkAreas (a : Option Addr) (len cap : Nat) (w : World) (hlen : len ≤ maxLen) (hC : CodeIs w.heap.size w a len) (hD : EnvW w) :
    Calls Tryd.prog 14 #[.slice a len cap] w fun e w' => e = .returned (.bool true) ∧ Below w.heap.size w w' := by
  by_cases hbig : 4096 < len
  · have hb : decide (4096 < len) = true := decide_eq_true hbig
    go_enter Tryd.func14, Tryd.ntmps14
    go_wp2_with fail
    refine (lawBig_any _ _ _ _).mono ?_
    rintro e w1 ⟨rfl, rfl⟩
    rw [hb]
    go_wp2_with fail
    go_ret
    exact ⟨rfl, Below.refl _ _⟩
  have hb : decide (4096 < len) = false := decide_eq_false hbig
  have HC := Lib.hid hC
  clear hC
  go_enter Tryd.func14, Tryd.ntmps14
  go_wp2_with fail
  refine (lawBig_any _ _ _ _).mono ?_
  rintro e w1 ⟨rfl, rfl⟩
  rw [hb]
  go_wp2_with fail
  refine (drawIntersection_any a len cap _ (by omega) HC.out).mono ?_
  rintro e w2 ⟨_, _, l1, l2, rfl, ⟨h1, c1, rfl, n1, i1⟩, ⟨h2, c2, rfl, n2, i2⟩, Bc⟩
  have I1 := Lib.hid i1
  have I2 := Lib.hid i2
  clear i1 i2 HC hbig hb
  go_wp2_with fail
  refine (specIsRegion_any (some ⟨h1, 0, none⟩) l1.length c1 (pA l1) (pB l1) (pC l1) (pD l1) _ (by omega) I1.out.rects).mono ?_
  rintro e w3 ⟨rfl, b3⟩
  have I1 := Lib.hid (I1.out.ext b3)
  have I2 := Lib.hid (I2.out.ext b3)
  have Bc := Ext.trans Bc b3
  clear b3
  cases hok1 : okR (pA l1) (pB l1) (pC l1) (pD l1) l1.length with
  | false =>
    go_wp2_with fail
    go_ret
    exact ⟨rfl, Bc⟩
  | true =>
  go_wp2_with fail
  refine (specIsRegion_any (some ⟨h2, 0, none⟩) l2.length c2 (pA l2) (pB l2) (pC l2) (pD l2) _ (by omega) I2.out.rects).mono ?_
  rintro e w4 ⟨rfl, b4⟩
  have I1 := Lib.hid (I1.out.ext b4)
  have I2 := Lib.hid (I2.out.ext b4)
  have Bc := Ext.trans Bc b4
  clear b4
  cases hok2 : okR (pA l2) (pB l2) (pC l2) (pD l2) l2.length with
  | false =>
    go_wp2_with fail
    go_ret
    exact ⟨rfl, Bc⟩
  | true =>
  have M14 : MergeC 0 14 := fun m n cap P Q R S mm k kc a' n' c' P' Q' R' S' w h1 h2 h3 h4 h5 h6 => merge14_any m n cap P Q R S mm k kc a' n' c' P' Q' R' S' w h1 h2 h3 h4 h5 h6
  have M8 : MergeC 1 8 := fun m n cap P Q R S mm k kc a' n' c' P' Q' R' S' w h1 h2 h3 h4 h5 h6 => merge8_any m n cap P Q R S mm k kc a' n' c' P' Q' R' S' w h1 h2 h3 h4 h5 h6
  have hadd := areas_add hok1 hok2
  have hb5 := opL_area_bd 14 hok1 hok2
  have hb8 := opL_area_bd 8 hok1 hok2
  have hb1 := areaR_bd hok1
  have hb2 := areaR_bd hok2
  have hn5 := opL_len 14 (pA l1) (pB l1) (pC l1) (pD l1) l1.length (pA l2) (pB l2) (pC l2) (pD l2) l2.length
  have hn8 := opL_len 8 (pA l1) (pB l1) (pC l1) (pD l1) l1.length (pA l2) (pB l2) (pC l2) (pD l2) l2.length
  obtain ⟨l5, hl5⟩ : ∃ l5, l5 = opL 14 (pA l1) (pB l1) (pC l1) (pD l1) l1.length (pA l2) (pB l2) (pC l2) (pD l2) l2.length := ⟨_, rfl⟩
  obtain ⟨l8, hl8⟩ : ∃ l8, l8 = opL 8 (pA l1) (pB l1) (pC l1) (pD l1) l1.length (pA l2) (pB l2) (pC l2) (pD l2) l2.length := ⟨_, rfl⟩
  rw [← hl5] at hadd hb5 hn5
  rw [← hl8] at hadd hb8 hn8
  have HL5 := Lib.hid hl5
  have HL8 := Lib.hid hl8
  clear hl5 hl8
  obtain ⟨z5, hz5⟩ : ∃ z5, z5 = areaR (pA l5) (pB l5) (pC l5) (pD l5) l5.length := ⟨_, rfl⟩
  obtain ⟨z8, hz8⟩ : ∃ z8, z8 = areaR (pA l8) (pB l8) (pC l8) (pD l8) l8.length := ⟨_, rfl⟩
  obtain ⟨z1, hz1⟩ : ∃ z1, z1 = areaR (pA l1) (pB l1) (pC l1) (pD l1) l1.length := ⟨_, rfl⟩
  obtain ⟨z2, hz2⟩ : ∃ z2, z2 = areaR (pA l2) (pB l2) (pC l2) (pD l2) l2.length := ⟨_, rfl⟩
  unfold areaL at hadd hb5 hb8
  rw [← hz5] at hadd hb5
  rw [← hz8] at hadd hb8
  rw [← hz1] at hadd hb1
  rw [← hz2] at hadd hb2
  have HZ5 := Lib.hid hz5
  have HZ8 := Lib.hid hz8
  have HZ1 := Lib.hid hz1
  have HZ2 := Lib.hid hz2
  obtain ⟨hb50, hb51⟩ := hb5
  obtain ⟨hb80, hb81⟩ := hb8
  obtain ⟨hb10, hb11⟩ := hb1
  obtain ⟨hb20, hb21⟩ := hb2
  clear hz5 hz8 hz1 hz2 hok1 hok2
  go_wp2_with fail
  refine (copyRects_any _ h1 c1 l1 _ (by omega) I1.out).mono ?_
  rintro e w3 ⟨h3, c3, rfl, k3, i3, b3⟩
  have i3 := Lib.hid i3
  have I1 := Lib.hid (I1.out.ext b3)
  have I2 := Lib.hid (I2.out.ext b3)
  have Bc := Ext.trans Bc b3
  clear b3
  have I3 := i3
  clear i3
  go_wp2_with fail
  refine (copyRects_any _ h2 c2 l2 _ (by omega) I2.out).mono ?_
  rintro e w4 ⟨h4, c4, rfl, k4, i4, b4⟩
  have i4 := Lib.hid i4
  have I1 := Lib.hid (I1.out.ext b4)
  have I2 := Lib.hid (I2.out.ext b4)
  have I3 := Lib.hid (I3.out.ext b4)
  have Bc := Ext.trans Bc b4
  clear b4
  have I4 := i4
  clear i4
  go_wp2_with fail
  refine (implUnionC_any M14 (some ⟨h3, 0, none⟩) l1.length c3 (pA l1) (pB l1) (pC l1) (pD l1) (some ⟨h4, 0, none⟩) l2.length c4 (pA l2) (pB l2) (pC l2) (pD l2) _ (by omega) k3 (by omega) k4 (hD.ext Bc) I3.out.rects I4.out.rects).mono ?_
  rintro e w5 ⟨⟨a5, c5, rfl, k5, o5⟩, b5⟩
  rw [← HL5.out] at k5 o5 ⊢
  have o5 := Lib.hid o5
  clear I3 I4
  have I1 := Lib.hid (I1.out.ext b5)
  have I2 := Lib.hid (I2.out.ext b5)
  have Bc := Ext.trans Bc b5
  clear b5
  have O5 := o5
  clear o5
  go_wp2_with fail
  refine (implRegionArea a5 l5.length c5 (pA l5) (pB l5) (pC l5) (pD l5) _ (by omega) k5 (hD.ext Bc) O5.out.rects).mono ?_
  rintro e v5 ⟨rfl, bv5⟩
  rw [show areaR (pA l5) (pB l5) (pC l5) (pD l5) l5.length = z5 from HZ5.out.symm]
  clear O5
  have I1 := Lib.hid (I1.out.ext bv5)
  have I2 := Lib.hid (I2.out.ext bv5)
  have Bc := Ext.trans Bc bv5
  clear bv5
  go_wp2_with fail
  refine (copyRects_any _ h1 c1 l1 _ (by omega) I1.out).mono ?_
  rintro e w6 ⟨h6, c6, rfl, k6, i6, b6⟩
  have i6 := Lib.hid i6
  have I1 := Lib.hid (I1.out.ext b6)
  have I2 := Lib.hid (I2.out.ext b6)
  have Bc := Ext.trans Bc b6
  clear b6
  have I6 := i6
  clear i6
  go_wp2_with fail
  refine (copyRects_any _ h2 c2 l2 _ (by omega) I2.out).mono ?_
  rintro e w7 ⟨h7, c7, rfl, k7, i7, b7⟩
  have i7 := Lib.hid i7
  have I1 := Lib.hid (I1.out.ext b7)
  have I2 := Lib.hid (I2.out.ext b7)
  have I6 := Lib.hid (I6.out.ext b7)
  have Bc := Ext.trans Bc b7
  clear b7
  have I7 := i7
  clear i7
  go_wp2_with fail
  refine (implIntersectionC_any M8 (some ⟨h6, 0, none⟩) l1.length c6 (pA l1) (pB l1) (pC l1) (pD l1) (some ⟨h7, 0, none⟩) l2.length c7 (pA l2) (pB l2) (pC l2) (pD l2) _ (by omega) k6 (by omega) k7 (hD.ext Bc) I6.out.rects I7.out.rects).mono ?_
  rintro e w8 ⟨⟨a8, c8, rfl, k8, o8⟩, b8⟩
  rw [← HL8.out] at k8 o8 ⊢
  have o8 := Lib.hid o8
  clear I6 I7
  have I1 := Lib.hid (I1.out.ext b8)
  have I2 := Lib.hid (I2.out.ext b8)
  have Bc := Ext.trans Bc b8
  clear b8
  have O8 := o8
  clear o8
  go_wp2_with fail
  refine (implRegionArea a8 l8.length c8 (pA l8) (pB l8) (pC l8) (pD l8) _ (by omega) k8 (hD.ext Bc) O8.out.rects).mono ?_
  rintro e v8 ⟨rfl, bv8⟩
  rw [show areaR (pA l8) (pB l8) (pC l8) (pD l8) l8.length = z8 from HZ8.out.symm]
  clear O8
  have I1 := Lib.hid (I1.out.ext bv8)
  have I2 := Lib.hid (I2.out.ext bv8)
  have Bc := Ext.trans Bc bv8
  clear bv8
  go_wp2_with fail
  refine (copyRects_any _ h1 c1 l1 _ (by omega) I1.out).mono ?_
  rintro e w9 ⟨h9, c9, rfl, k9, i9, b9⟩
  have i9 := Lib.hid i9
  have I1 := Lib.hid (I1.out.ext b9)
  have I2 := Lib.hid (I2.out.ext b9)
  have Bc := Ext.trans Bc b9
  clear b9
  have I9 := i9
  clear i9
  go_wp2_with fail
  refine (implRegionArea (some ⟨h9, 0, none⟩) l1.length c9 (pA l1) (pB l1) (pC l1) (pD l1) _ (by omega) k9 (hD.ext Bc) I9.out.rects).mono ?_
  rintro e v9 ⟨rfl, bv9⟩
  rw [show areaR (pA l1) (pB l1) (pC l1) (pD l1) l1.length = z1 from HZ1.out.symm]
  clear I9
  have I1 := Lib.hid (I1.out.ext bv9)
  have I2 := Lib.hid (I2.out.ext bv9)
  have Bc := Ext.trans Bc bv9
  clear bv9
  go_wp2_with fail
  refine (copyRects_any _ h2 c2 l2 _ (by omega) I2.out).mono ?_
  rintro e w10 ⟨h10, c10, rfl, k10, i10, b10⟩
  have i10 := Lib.hid i10
  have I1 := Lib.hid (I1.out.ext b10)
  have I2 := Lib.hid (I2.out.ext b10)
  have Bc := Ext.trans Bc b10
  clear b10
  have I10 := i10
  clear i10
  go_wp2_with fail
  refine (implRegionArea (some ⟨h10, 0, none⟩) l2.length c10 (pA l2) (pB l2) (pC l2) (pD l2) _ (by omega) k10 (hD.ext Bc) I10.out.rects).mono ?_
  rintro e v10 ⟨rfl, bv10⟩
  rw [show areaR (pA l2) (pB l2) (pC l2) (pD l2) l2.length = z2 from HZ2.out.symm]
  clear I10
  have I1 := Lib.hid (I1.out.ext bv10)
  have I2 := Lib.hid (I2.out.ext bv10)
  have Bc := Ext.trans Bc bv10
  clear bv10
  go_wp2_with fail
  refine (specRegionArea_any (some ⟨h1, 0, none⟩) l1.length c1 (pA l1) (pB l1) (pC l1) (pD l1) _ (by omega) I1.out.rects).mono ?_
  rintro e u1 ⟨rfl, bu1⟩
  rw [show areaR (pA l1) (pB l1) (pC l1) (pD l1) l1.length = z1 from HZ1.out.symm]
  have I1 := Lib.hid (I1.out.ext bu1)
  have I2 := Lib.hid (I2.out.ext bu1)
  have Bc := Ext.trans Bc bu1
  clear bu1
  go_wp2_with fail
  refine (specRegionArea_any (some ⟨h2, 0, none⟩) l2.length c2 (pA l2) (pB l2) (pC l2) (pD l2) _ (by omega) I2.out.rects).mono ?_
  rintro e u2 ⟨rfl, bu2⟩
  rw [show areaR (pA l2) (pB l2) (pC l2) (pD l2) l2.length = z2 from HZ2.out.symm]
  have I1 := Lib.hid (I1.out.ext bu2)
  have I2 := Lib.hid (I2.out.ext bu2)
  have Bc := Ext.trans Bc bu2
  clear bu2
  go_wp2_with fail
  go_ret
  exact ⟨rfl, Bc⟩
end Go.Proofs.YtdcddneanbplpaaDoor

/- For every input the law FnAreas answers true and leaves its arguments as they were. Condition: the listed package-level variables hold what the program's text lays (the card ties them). -/
namespace Go.Proofs.YtdcddneanbplpaaDoor.fnAreas
open Go.Proofs.YtdcddneanbplpaaDoor
open Go.ChangeShapes Go.WideShapes Go.ChangeAt Go.RowKit Go.Joins
open Go.ChangeMaps (open_string shut_string)
set_option linter.unusedVariables false

theorem addN0 (x : Addr) : x.add 0 = x := by simp [Addr.add]
theorem addNk (b o k : Nat) : (⟨b, o, none⟩ : Addr).add k = ⟨b, o + k, none⟩ := by
  unfold Addr.add
  split
  · rename_i h; subst h; rfl
  · rfl
theorem own : ownKnob Tryd.prog.godebug = none := by kernel_rfl
theorem laidOut : laidOutB Tryd.prog = true := by kernel_rfl

abbrev laid := Rows.fnAreasRow.laid
set_option maxRecDepth 100000 in
theorem lifted (os : Os) (started : os.Started) (H : Type) (enc : TypeId × Value → H) :
    ReturnsInHanded {} Tryd.checked os 14 .any (fun w args => (Rows.fnAreasSpec.pre enc Tryd.prog Tryd.f14 Rows.fnAreasRow.domain false w args ∧ laidMetH Tryd.prog Rows.fnAreasRow.laid w) ∧ sizedMet enc Tryd.prog Tryd.f14 (OpenSpec.ofChange Rows.fnAreasSpec) false w args)
      (Rows.fnAreasSpec.post enc Tryd.prog Tryd.f14 false true false false) := by
  refine returnsInHanded_of_change_and (C := Tryd.checked) (X := fun w _ => laidMetH Tryd.prog Rows.fnAreasRow.laid w) (fun _ _ _ hh h => h.of_heap hh) own started (by kernel_rfl) Tryd.func14
    (ChangeSpec.witness_shaped (enc := enc) (C := Tryd.checked) (os := os) (X := fun w _ => laidMetH Tryd.prog Rows.fnAreasRow.laid w) false (World.laidAll Tryd.prog os Rows.fnAreasRow.laid) #[.slice none 0 0] 8 (World.laidAll_os _ _ _)
      (World.shaped_of_ZipB (by kernel_rfl) (by kernel_rfl)) (by kernel_rfl) (by kernel_rfl) (by kernel_rfl)
      (by rw [MakeChecks.laidMetH_plain _ _ _ (by kernel_rfl)]; exact laidMet_laidAll _ (by kernel_rfl) (by kernel_rfl))) ?_
  intro W base args ds gs before hval0 hW hcnd _ hL _
  have hval : ∀ (j : Nat) t v, Tryd.f14.params[j]? = some t → args[j]? = some v → Value.okWide Tryd.prog W .any base t v := hval0
  have hW' := hW
  obtain ⟨p, q, hA0, hV, rfl, hfz, hnd⟩ := hW
  have hA : DataW.TrodAll enc Tryd.prog W 0 (fun _ => true) true Tryd.f14.params.toList args.toList ds p := hA0
  rw [Tryd.params14] at hA hval
  obtain ⟨v0, vs0, d0, ds0, p0, q0, hargs, rfl, rfl, h0, r0⟩ := trodAll_cons hA
  obtain ⟨rfl, rfl, rfl⟩ := trodAll_nil r0
  obtain rfl : args = #[v0] := by cases args; simp_all
  obtain ⟨g0, gt0, gcs0, gf0, gd0, gp0, rfl, hg1, hg2, hg3, hg4, hg5⟩ := trodVars_one hV
  have k0 := h0
  have lt0 : ∀ x ∈ p0, x.block < W.heap.size := by obtain ⟨m, hm⟩ := k0; exact DataW.trod_lt m _ _ _ hm
  obtain ⟨a0, len0, cap0, rfl⟩ := okWide_slice Tryd.underlying50 (hval 0 50 v0 rfl rfl)
  have code0 : len0 ≤ maxLen ∧ CodeIs W.heap.size W a0 len0 := by
    obtain ⟨fuel, hf⟩ := h0
    rcases open_ints Tryd.underlying50 Tryd.underlying5 (by kernel_rfl) hf with ⟨hcs, _⟩ | ⟨x, l, c, zs, hcs, _, hl, hm, hz, _, hcell, hwz⟩
    · simp [Value.cells] at hcs
      obtain ⟨rfl, rfl, rfl⟩ := hcs
      exact ⟨Nat.zero_le _, fun k hk => absurd hk (by omega)⟩
    · simp [Value.cells] at hcs
      obtain ⟨rfl, rfl, rfl⟩ := hcs
      have hz' := hz
      simp at hz'
      refine ⟨by omega, fun k hk => ?_⟩
      have hk' : k < zs.length := by omega
      have hc0 := hcell 0 (by omega)
      have hc := hcell k hk'
      rw [addN0] at hc0
      have hsp : x.spot = none := Go.Proofs.cell_spot hc0
      have hw := hwz (zs.getD k 0) (by rw [List.getD, List.getElem?_eq_getElem hk']; exact List.getElem_mem hk')
      have hb := bounds_u8 hw
      obtain ⟨xb, xo, xs⟩ := x
      obtain rfl : xs = none := hsp
      rw [addNk] at hc
      exact ⟨xb, xo, zs.getD k 0, rfl, World.block_lt_of_cell? W ⟨xb, xo + k, none⟩ hc, hc, hb.1, hb.2⟩
  have hEnv : EnvW W := ⟨deb_of_laid hL (by kernel_rfl) (by simp [Rows.fnAreasRow]), chip_of_laid hL (by kernel_rfl) (by simp [Rows.fnAreasRow])⟩
  clear hA0 hval0
  refine (walkAreas a0 len0 cap0 W code0.1 code0.2 hEnv).mono fun e W' ⟨he, bel⟩ => ?_
  subst he
  exact ⟨_, rfl, _, _, _, [], _, _, hW', trodAll_mk1 (shut_bool Tryd.underlying4 _), (trodAll_cons_mk (Below.trod laidOut (by kernel_rfl) (of_decide_eq_true (by kernel_rfl)) k0 bel lt0) trodAll_mk0), (Below.trodVars laidOut bel (by kernel_rfl) hV), bel.frame _, fun h => by cases h⟩

end Go.Proofs.YtdcddneanbplpaaDoor.fnAreas
